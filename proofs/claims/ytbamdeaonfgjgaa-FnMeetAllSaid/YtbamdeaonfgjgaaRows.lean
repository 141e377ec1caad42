/-
  No cell of these rows narrows 'for every input' (looked for: loops, veiled, ifaces, maps, wideKeys, modest, calm, conditions, laid).
  DERIVED. THE GIVEN ROWS OF THIS SEAT. 9 by the template 'for every input the law returns true; each argument reads behind the call as it read before'; 0 by the template 'total and deterministic' (their statements: YtbamdeaonfgjgaaTotals.lean).
  GIVEN WITH THE SEED: the statements are not yours to turn. If you find one false, say at which input.
  Laid BY PROGRAM, IN A SANDBOX (cutbox-rows.mjs): the forced cells as the released guide's own fill.sh prints them over the translation df08753362df760e… (all of the seat's roots in one cut). By AI agents, Wed Nov 11 2026. No macro, syntax, notation, axiom, sorry.
-/
import Derived.Test.YtbamdeaonfgjgaaChecked
import GoSem.Claim
import GoSem.ClaimJoined
import GoSem.ClaimMapViews
import Derived.JoinedTies
import Derived.KernelRfl
namespace Go.Proofs.Ytbamdeaonfgjgaa
/- THE CELL 'sum', in the pinned program and in every row, IS THE sha256 OF THE DUMP (.gsa) THAT YtbamdeaonfgjgaaProg.lean LOADS. Nothing in Lean hashes anything: it is a label: what it is worth is what the hold of that sum in a sandbox is worth. -/
noncomputable def Try.pinned : Pinned := { name := "ytbamdeaonfgjgaa", sum := "df08753362df760e1100666de6cbd29f0eb4811ac0be7023d68b05bba554c13a", checked := Try.checked }
namespace Rows
def none {H : Type} : Left H := { results := [], args := [] }

/-- 'laws.FnSlow': WHATEVER THE INPUT: true; the input reads as it did. -/
def fnSlowSpec : ChangeSpec := { name := "fnSlow", fn := fun _ => fun
  | [d] => { results := [.lit (.bool true)], args := [d] }
  | _ => none }
def fnSlowRow : OpenClaim := { program := "ytbamdeaonfgjgaa", sum := "df08753362df760e1100666de6cbd29f0eb4811ac0be7023d68b05bba554c13a", func := "loop.example/leaderlesslog/laws.FnSlow", spec := "fnSlow", apart := false }
def FnSlowSaid : Prop := fnSlowRow.holds Try.pinned (OpenSpec.ofChange fnSlowSpec)

/-- ITS FALSE NEIGHBOUR: 'it returns false'. Refute it at one input. -/
def fnSlowWrong : ChangeSpec := { name := "fnSlow", fn := fun _ => fun
  | [d] => { results := [.lit (.bool false)], args := [d] }
  | _ => none }
def FnSlowWrongFalsely : Prop := fnSlowRow.holds Try.pinned (OpenSpec.ofChange fnSlowWrong)

/-- 'laws.FnFast': WHATEVER THE INPUT: true; the input reads as it did. -/
def fnFastSpec : ChangeSpec := { name := "fnFast", fn := fun _ => fun
  | [d] => { results := [.lit (.bool true)], args := [d] }
  | _ => none }
def fnFastRow : OpenClaim := { program := "ytbamdeaonfgjgaa", sum := "df08753362df760e1100666de6cbd29f0eb4811ac0be7023d68b05bba554c13a", func := "loop.example/leaderlesslog/laws.FnFast", spec := "fnFast", apart := false }
def FnFastSaid : Prop := fnFastRow.holds Try.pinned (OpenSpec.ofChange fnFastSpec)

/-- ITS FALSE NEIGHBOUR: 'it returns false'. Refute it at one input. -/
def fnFastWrong : ChangeSpec := { name := "fnFast", fn := fun _ => fun
  | [d] => { results := [.lit (.bool false)], args := [d] }
  | _ => none }
def FnFastWrongFalsely : Prop := fnFastRow.holds Try.pinned (OpenSpec.ofChange fnFastWrong)

/-- 'laws.FnFastSlow': WHATEVER THE INPUT: true; the input reads as it did. -/
def fnFastSlowSpec : ChangeSpec := { name := "fnFastSlow", fn := fun _ => fun
  | [d] => { results := [.lit (.bool true)], args := [d] }
  | _ => none }
def fnFastSlowRow : OpenClaim := { program := "ytbamdeaonfgjgaa", sum := "df08753362df760e1100666de6cbd29f0eb4811ac0be7023d68b05bba554c13a", func := "loop.example/leaderlesslog/laws.FnFastSlow", spec := "fnFastSlow", apart := false }
def FnFastSlowSaid : Prop := fnFastSlowRow.holds Try.pinned (OpenSpec.ofChange fnFastSlowSpec)

/-- ITS FALSE NEIGHBOUR: 'it returns false'. Refute it at one input. -/
def fnFastSlowWrong : ChangeSpec := { name := "fnFastSlow", fn := fun _ => fun
  | [d] => { results := [.lit (.bool false)], args := [d] }
  | _ => none }
def FnFastSlowWrongFalsely : Prop := fnFastSlowRow.holds Try.pinned (OpenSpec.ofChange fnFastSlowWrong)

/-- 'laws.FnMeet': WHATEVER THE INPUT: true; the input reads as it did. -/
def fnMeetSpec : ChangeSpec := { name := "fnMeet", fn := fun _ => fun
  | [d] => { results := [.lit (.bool true)], args := [d] }
  | _ => none }
def fnMeetRow : OpenClaim := { program := "ytbamdeaonfgjgaa", sum := "df08753362df760e1100666de6cbd29f0eb4811ac0be7023d68b05bba554c13a", func := "loop.example/leaderlesslog/laws.FnMeet", spec := "fnMeet", apart := false }
def FnMeetSaid : Prop := fnMeetRow.holds Try.pinned (OpenSpec.ofChange fnMeetSpec)

/-- ITS FALSE NEIGHBOUR: 'it returns false'. Refute it at one input. -/
def fnMeetWrong : ChangeSpec := { name := "fnMeet", fn := fun _ => fun
  | [d] => { results := [.lit (.bool false)], args := [d] }
  | _ => none }
def FnMeetWrongFalsely : Prop := fnMeetRow.holds Try.pinned (OpenSpec.ofChange fnMeetWrong)

/-- 'laws.FnMeetMore': WHATEVER THE INPUT: true; the input reads as it did. -/
def fnMeetMoreSpec : ChangeSpec := { name := "fnMeetMore", fn := fun _ => fun
  | [d] => { results := [.lit (.bool true)], args := [d] }
  | _ => none }
def fnMeetMoreRow : OpenClaim := { program := "ytbamdeaonfgjgaa", sum := "df08753362df760e1100666de6cbd29f0eb4811ac0be7023d68b05bba554c13a", func := "loop.example/leaderlesslog/laws.FnMeetMore", spec := "fnMeetMore", apart := false }
def FnMeetMoreSaid : Prop := fnMeetMoreRow.holds Try.pinned (OpenSpec.ofChange fnMeetMoreSpec)

/-- ITS FALSE NEIGHBOUR: 'it returns false'. Refute it at one input. -/
def fnMeetMoreWrong : ChangeSpec := { name := "fnMeetMore", fn := fun _ => fun
  | [d] => { results := [.lit (.bool false)], args := [d] }
  | _ => none }
def FnMeetMoreWrongFalsely : Prop := fnMeetMoreRow.holds Try.pinned (OpenSpec.ofChange fnMeetMoreWrong)

/-- 'laws.FnMeetAll': WHATEVER THE INPUT: true; the input reads as it did. -/
def fnMeetAllSpec : ChangeSpec := { name := "fnMeetAll", fn := fun _ => fun
  | [d] => { results := [.lit (.bool true)], args := [d] }
  | _ => none }
def fnMeetAllRow : OpenClaim := { program := "ytbamdeaonfgjgaa", sum := "df08753362df760e1100666de6cbd29f0eb4811ac0be7023d68b05bba554c13a", func := "loop.example/leaderlesslog/laws.FnMeetAll", spec := "fnMeetAll", apart := false }
def FnMeetAllSaid : Prop := fnMeetAllRow.holds Try.pinned (OpenSpec.ofChange fnMeetAllSpec)

/-- ITS FALSE NEIGHBOUR: 'it returns false'. Refute it at one input. -/
def fnMeetAllWrong : ChangeSpec := { name := "fnMeetAll", fn := fun _ => fun
  | [d] => { results := [.lit (.bool false)], args := [d] }
  | _ => none }
def FnMeetAllWrongFalsely : Prop := fnMeetAllRow.holds Try.pinned (OpenSpec.ofChange fnMeetAllWrong)

/-- 'laws.FnExactSlowSize': WHATEVER THE INPUT: true; the input reads as it did. -/
def fnExactSlowSizeSpec : ChangeSpec := { name := "fnExactSlowSize", fn := fun _ => fun
  | [d] => { results := [.lit (.bool true)], args := [d] }
  | _ => none }
def fnExactSlowSizeRow : OpenClaim := { program := "ytbamdeaonfgjgaa", sum := "df08753362df760e1100666de6cbd29f0eb4811ac0be7023d68b05bba554c13a", func := "loop.example/leaderlesslog/laws.FnExactSlowSize", spec := "fnExactSlowSize", apart := false }
def FnExactSlowSizeSaid : Prop := fnExactSlowSizeRow.holds Try.pinned (OpenSpec.ofChange fnExactSlowSizeSpec)

/-- ITS FALSE NEIGHBOUR: 'it returns false'. Refute it at one input. -/
def fnExactSlowSizeWrong : ChangeSpec := { name := "fnExactSlowSize", fn := fun _ => fun
  | [d] => { results := [.lit (.bool false)], args := [d] }
  | _ => none }
def FnExactSlowSizeWrongFalsely : Prop := fnExactSlowSizeRow.holds Try.pinned (OpenSpec.ofChange fnExactSlowSizeWrong)

/-- 'laws.FnExactFastSize': WHATEVER THE INPUT: true; the input reads as it did. -/
def fnExactFastSizeSpec : ChangeSpec := { name := "fnExactFastSize", fn := fun _ => fun
  | [d] => { results := [.lit (.bool true)], args := [d] }
  | _ => none }
def fnExactFastSizeRow : OpenClaim := { program := "ytbamdeaonfgjgaa", sum := "df08753362df760e1100666de6cbd29f0eb4811ac0be7023d68b05bba554c13a", func := "loop.example/leaderlesslog/laws.FnExactFastSize", spec := "fnExactFastSize", apart := false }
def FnExactFastSizeSaid : Prop := fnExactFastSizeRow.holds Try.pinned (OpenSpec.ofChange fnExactFastSizeSpec)

/-- ITS FALSE NEIGHBOUR: 'it returns false'. Refute it at one input. -/
def fnExactFastSizeWrong : ChangeSpec := { name := "fnExactFastSize", fn := fun _ => fun
  | [d] => { results := [.lit (.bool false)], args := [d] }
  | _ => none }
def FnExactFastSizeWrongFalsely : Prop := fnExactFastSizeRow.holds Try.pinned (OpenSpec.ofChange fnExactFastSizeWrong)

/-- 'laws.FnExactMeetSize': WHATEVER THE INPUT: true; the input reads as it did. -/
def fnExactMeetSizeSpec : ChangeSpec := { name := "fnExactMeetSize", fn := fun _ => fun
  | [d1, d2] => { results := [.lit (.bool true)], args := [d1, d2] }
  | _ => none }
def fnExactMeetSizeRow : OpenClaim := { program := "ytbamdeaonfgjgaa", sum := "df08753362df760e1100666de6cbd29f0eb4811ac0be7023d68b05bba554c13a", func := "loop.example/leaderlesslog/laws.FnExactMeetSize", spec := "fnExactMeetSize", apart := false }
def FnExactMeetSizeSaid : Prop := fnExactMeetSizeRow.holds Try.pinned (OpenSpec.ofChange fnExactMeetSizeSpec)

/-- ITS FALSE NEIGHBOUR: 'it returns false'. Refute it at one input. -/
def fnExactMeetSizeWrong : ChangeSpec := { name := "fnExactMeetSize", fn := fun _ => fun
  | [d1, d2] => { results := [.lit (.bool false)], args := [d1, d2] }
  | _ => none }
def FnExactMeetSizeWrongFalsely : Prop := fnExactMeetSizeRow.holds Try.pinned (OpenSpec.ofChange fnExactMeetSizeWrong)

/- THE SECOND FORM. 'bulk': how many values and letters a reading holds, each counted each time it is reached (what is shared counts as often as it is met; a slice's spare places count too). A statement '..UptoSaid' is the law's where the arguments, and the package variables that the reading takes, are together of bulk at most 1048576: NARROWER than '..Said'. Prove '..Said' where nothing that the law and all that it calls make is longer than what came in: it says more and counts as full. Else prove '..UptoSaid'. A law counts once. -/
mutual
def uptoBulk {H : Type} : DataW H → Nat
  | .lit (.string bytes) => bytes.length + 1
  | .lit _ => 1
  | .nil => 1
  | .ptr d => uptoBulk d + 1
  | .slice elems spare => uptoBulkAll elems + uptoBulkAll spare + 1
  | .agg parts => uptoBulkAll parts + 1
  | .iface _ d => uptoBulk d + 1
  | .map entries => uptoBulkEntries entries + 1
  | .held _ => 1
def uptoBulkAll {H : Type} : List (DataW H) → Nat
  | [] => 0
  | d :: r => uptoBulk d + uptoBulkAll r
def uptoBulkEntries {H : Type} : List (Lit × DataW H) → Nat
  | [] => 0
  | x :: r => uptoBulkEntry x + uptoBulkEntries r
def uptoBulkEntry {H : Type} : Lit × DataW H → Nat
  | (.string bytes, d) => bytes.length + uptoBulk d + 1
  | (_, d) => uptoBulk d + 1
 end
def uptoSmall : (H : Type) → List (DataW H) → Bool := fun _ ds => decide (uptoBulkAll ds ≤ 1048576)
def OpenSpec.upto (s : _root_.Go.ChangeSpec) : _root_.Go.OpenSpec := { _root_.Go.OpenSpec.ofChange s with cond := some uptoSmall }

/-- 'laws.FnSlow', WHERE WHAT IT READS IS OF BULK AT MOST 1048576: true; the input reads as it did. -/
def fnSlowUptoRow : OpenClaim := { program := "ytbamdeaonfgjgaa", sum := "df08753362df760e1100666de6cbd29f0eb4811ac0be7023d68b05bba554c13a", func := "loop.example/leaderlesslog/laws.FnSlow", spec := "fnSlow", apart := false, narrowed := true }
def FnSlowUptoSaid : Prop := fnSlowUptoRow.holds Try.pinned (OpenSpec.upto fnSlowSpec)

/-- 'laws.FnFast', WHERE WHAT IT READS IS OF BULK AT MOST 1048576: true; the input reads as it did. -/
def fnFastUptoRow : OpenClaim := { program := "ytbamdeaonfgjgaa", sum := "df08753362df760e1100666de6cbd29f0eb4811ac0be7023d68b05bba554c13a", func := "loop.example/leaderlesslog/laws.FnFast", spec := "fnFast", apart := false, narrowed := true }
def FnFastUptoSaid : Prop := fnFastUptoRow.holds Try.pinned (OpenSpec.upto fnFastSpec)

/-- 'laws.FnFastSlow', WHERE WHAT IT READS IS OF BULK AT MOST 1048576: true; the input reads as it did. -/
def fnFastSlowUptoRow : OpenClaim := { program := "ytbamdeaonfgjgaa", sum := "df08753362df760e1100666de6cbd29f0eb4811ac0be7023d68b05bba554c13a", func := "loop.example/leaderlesslog/laws.FnFastSlow", spec := "fnFastSlow", apart := false, narrowed := true }
def FnFastSlowUptoSaid : Prop := fnFastSlowUptoRow.holds Try.pinned (OpenSpec.upto fnFastSlowSpec)

/-- 'laws.FnMeet', WHERE WHAT IT READS IS OF BULK AT MOST 1048576: true; the input reads as it did. -/
def fnMeetUptoRow : OpenClaim := { program := "ytbamdeaonfgjgaa", sum := "df08753362df760e1100666de6cbd29f0eb4811ac0be7023d68b05bba554c13a", func := "loop.example/leaderlesslog/laws.FnMeet", spec := "fnMeet", apart := false, narrowed := true }
def FnMeetUptoSaid : Prop := fnMeetUptoRow.holds Try.pinned (OpenSpec.upto fnMeetSpec)

/-- 'laws.FnMeetMore', WHERE WHAT IT READS IS OF BULK AT MOST 1048576: true; the input reads as it did. -/
def fnMeetMoreUptoRow : OpenClaim := { program := "ytbamdeaonfgjgaa", sum := "df08753362df760e1100666de6cbd29f0eb4811ac0be7023d68b05bba554c13a", func := "loop.example/leaderlesslog/laws.FnMeetMore", spec := "fnMeetMore", apart := false, narrowed := true }
def FnMeetMoreUptoSaid : Prop := fnMeetMoreUptoRow.holds Try.pinned (OpenSpec.upto fnMeetMoreSpec)

/-- 'laws.FnMeetAll', WHERE WHAT IT READS IS OF BULK AT MOST 1048576: true; the input reads as it did. -/
def fnMeetAllUptoRow : OpenClaim := { program := "ytbamdeaonfgjgaa", sum := "df08753362df760e1100666de6cbd29f0eb4811ac0be7023d68b05bba554c13a", func := "loop.example/leaderlesslog/laws.FnMeetAll", spec := "fnMeetAll", apart := false, narrowed := true }
def FnMeetAllUptoSaid : Prop := fnMeetAllUptoRow.holds Try.pinned (OpenSpec.upto fnMeetAllSpec)

/-- 'laws.FnExactSlowSize', WHERE WHAT IT READS IS OF BULK AT MOST 1048576: true; the input reads as it did. -/
def fnExactSlowSizeUptoRow : OpenClaim := { program := "ytbamdeaonfgjgaa", sum := "df08753362df760e1100666de6cbd29f0eb4811ac0be7023d68b05bba554c13a", func := "loop.example/leaderlesslog/laws.FnExactSlowSize", spec := "fnExactSlowSize", apart := false, narrowed := true }
def FnExactSlowSizeUptoSaid : Prop := fnExactSlowSizeUptoRow.holds Try.pinned (OpenSpec.upto fnExactSlowSizeSpec)

/-- 'laws.FnExactFastSize', WHERE WHAT IT READS IS OF BULK AT MOST 1048576: true; the input reads as it did. -/
def fnExactFastSizeUptoRow : OpenClaim := { program := "ytbamdeaonfgjgaa", sum := "df08753362df760e1100666de6cbd29f0eb4811ac0be7023d68b05bba554c13a", func := "loop.example/leaderlesslog/laws.FnExactFastSize", spec := "fnExactFastSize", apart := false, narrowed := true }
def FnExactFastSizeUptoSaid : Prop := fnExactFastSizeUptoRow.holds Try.pinned (OpenSpec.upto fnExactFastSizeSpec)

/-- 'laws.FnExactMeetSize', WHERE WHAT IT READS IS OF BULK AT MOST 1048576: true; the input reads as it did. -/
def fnExactMeetSizeUptoRow : OpenClaim := { program := "ytbamdeaonfgjgaa", sum := "df08753362df760e1100666de6cbd29f0eb4811ac0be7023d68b05bba554c13a", func := "loop.example/leaderlesslog/laws.FnExactMeetSize", spec := "fnExactMeetSize", apart := false, narrowed := true }
def FnExactMeetSizeUptoSaid : Prop := fnExactMeetSizeUptoRow.holds Try.pinned (OpenSpec.upto fnExactMeetSizeSpec)

end Rows
end Go.Proofs.Ytbamdeaonfgjgaa
