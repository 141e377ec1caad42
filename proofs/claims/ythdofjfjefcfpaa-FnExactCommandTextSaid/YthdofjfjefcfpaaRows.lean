/-
  No cell of these rows narrows 'for every input' (looked for: loops, veiled, ifaces, maps, wideKeys, modest, calm, conditions, laid).
  DERIVED. THE GIVEN ROWS OF THIS SEAT. 7 by the template 'for every input the law returns true; each argument reads behind the call as it read before'; 0 by the template 'total and deterministic' (their statements: YthdofjfjefcfpaaTotals.lean).
  GIVEN WITH THE SEED: the statements are not yours to turn. If you find one false, say at which input.
  Laid BY PROGRAM, IN A SANDBOX (cutbox-rows.mjs): the forced cells as the released guide's own fill.sh prints them over the translation 49b5dca9bb77b106… (all of the seat's roots in one cut). By AI agents, Wed Nov 11 2026. No macro, syntax, notation, axiom, sorry.
-/
import Derived.Test.YthdofjfjefcfpaaChecked
import GoSem.Claim
import GoSem.ClaimJoined
import GoSem.ClaimMapViews
import Derived.JoinedTies
import Derived.KernelRfl
namespace Go.Proofs.Ythdofjfjefcfpaa
/- THE CELL 'sum', in the pinned program and in every row, IS THE sha256 OF THE DUMP (.gsa) THAT YthdofjfjefcfpaaProg.lean LOADS. Nothing in Lean hashes anything: it is a label: what it is worth is what the hold of that sum in a sandbox is worth. -/
noncomputable def Try.pinned : Pinned := { name := "ythdofjfjefcfpaa", sum := "49b5dca9bb77b10607937664c4fa7e115fdf185fdbaa051b63c0582b33d2b815", checked := Try.checked }
namespace Rows
def none {H : Type} : Left H := { results := [], args := [] }

/-- 'laws.FnClash': WHATEVER THE INPUT: true; the input reads as it did. -/
def fnClashSpec : ChangeSpec := { name := "fnClash", fn := fun _ => fun
  | [d] => { results := [.lit (.bool true)], args := [d] }
  | _ => none }
def fnClashRow : OpenClaim := { program := "ythdofjfjefcfpaa", sum := "49b5dca9bb77b10607937664c4fa7e115fdf185fdbaa051b63c0582b33d2b815", func := "loop.example/leaderlesslog/laws.FnClash", spec := "fnClash", unfollowed := true, recurses := true, apart := false }
def FnClashSaid : Prop := fnClashRow.holds Try.pinned (OpenSpec.ofChange fnClashSpec)

/-- ITS FALSE NEIGHBOUR: 'it returns false'. Refute it at one input. -/
def fnClashWrong : ChangeSpec := { name := "fnClash", fn := fun _ => fun
  | [d] => { results := [.lit (.bool false)], args := [d] }
  | _ => none }
def FnClashWrongFalsely : Prop := fnClashRow.holds Try.pinned (OpenSpec.ofChange fnClashWrong)

/-- 'laws.FnClashKey': WHATEVER THE INPUT: true; the input reads as it did. -/
def fnClashKeySpec : ChangeSpec := { name := "fnClashKey", fn := fun _ => fun
  | [d] => { results := [.lit (.bool true)], args := [d] }
  | _ => none }
def fnClashKeyRow : OpenClaim := { program := "ythdofjfjefcfpaa", sum := "49b5dca9bb77b10607937664c4fa7e115fdf185fdbaa051b63c0582b33d2b815", func := "loop.example/leaderlesslog/laws.FnClashKey", spec := "fnClashKey", unfollowed := true, recurses := true, apart := false }
def FnClashKeySaid : Prop := fnClashKeyRow.holds Try.pinned (OpenSpec.ofChange fnClashKeySpec)

/-- ITS FALSE NEIGHBOUR: 'it returns false'. Refute it at one input. -/
def fnClashKeyWrong : ChangeSpec := { name := "fnClashKey", fn := fun _ => fun
  | [d] => { results := [.lit (.bool false)], args := [d] }
  | _ => none }
def FnClashKeyWrongFalsely : Prop := fnClashKeyRow.holds Try.pinned (OpenSpec.ofChange fnClashKeyWrong)

/-- 'laws.FnCommandPart': WHATEVER THE INPUT: true; the input reads as it did. -/
def fnCommandPartSpec : ChangeSpec := { name := "fnCommandPart", fn := fun _ => fun
  | [d] => { results := [.lit (.bool true)], args := [d] }
  | _ => none }
def fnCommandPartRow : OpenClaim := { program := "ythdofjfjefcfpaa", sum := "49b5dca9bb77b10607937664c4fa7e115fdf185fdbaa051b63c0582b33d2b815", func := "loop.example/leaderlesslog/laws.FnCommandPart", spec := "fnCommandPart", apart := false }
def FnCommandPartSaid : Prop := fnCommandPartRow.holds Try.pinned (OpenSpec.ofChange fnCommandPartSpec)

/-- ITS FALSE NEIGHBOUR: 'it returns false'. Refute it at one input. -/
def fnCommandPartWrong : ChangeSpec := { name := "fnCommandPart", fn := fun _ => fun
  | [d] => { results := [.lit (.bool false)], args := [d] }
  | _ => none }
def FnCommandPartWrongFalsely : Prop := fnCommandPartRow.holds Try.pinned (OpenSpec.ofChange fnCommandPartWrong)

/-- 'laws.FnClashNone': WHATEVER THE INPUT: true; the input reads as it did. -/
def fnClashNoneSpec : ChangeSpec := { name := "fnClashNone", fn := fun _ => fun
  | [d] => { results := [.lit (.bool true)], args := [d] }
  | _ => none }
def fnClashNoneRow : OpenClaim := { program := "ythdofjfjefcfpaa", sum := "49b5dca9bb77b10607937664c4fa7e115fdf185fdbaa051b63c0582b33d2b815", func := "loop.example/leaderlesslog/laws.FnClashNone", spec := "fnClashNone", unfollowed := true, recurses := true, apart := false }
def FnClashNoneSaid : Prop := fnClashNoneRow.holds Try.pinned (OpenSpec.ofChange fnClashNoneSpec)

/-- ITS FALSE NEIGHBOUR: 'it returns false'. Refute it at one input. -/
def fnClashNoneWrong : ChangeSpec := { name := "fnClashNone", fn := fun _ => fun
  | [d] => { results := [.lit (.bool false)], args := [d] }
  | _ => none }
def FnClashNoneWrongFalsely : Prop := fnClashNoneRow.holds Try.pinned (OpenSpec.ofChange fnClashNoneWrong)

/-- 'laws.FnExactCommandValid': WHATEVER THE INPUT: true; the input reads as it did. -/
def fnExactCommandValidSpec : ChangeSpec := { name := "fnExactCommandValid", fn := fun _ => fun
  | [d] => { results := [.lit (.bool true)], args := [d] }
  | _ => none }
def fnExactCommandValidRow : OpenClaim := { program := "ythdofjfjefcfpaa", sum := "49b5dca9bb77b10607937664c4fa7e115fdf185fdbaa051b63c0582b33d2b815", func := "loop.example/leaderlesslog/laws.FnExactCommandValid", spec := "fnExactCommandValid", apart := false }
def FnExactCommandValidSaid : Prop := fnExactCommandValidRow.holds Try.pinned (OpenSpec.ofChange fnExactCommandValidSpec)

/-- ITS FALSE NEIGHBOUR: 'it returns false'. Refute it at one input. -/
def fnExactCommandValidWrong : ChangeSpec := { name := "fnExactCommandValid", fn := fun _ => fun
  | [d] => { results := [.lit (.bool false)], args := [d] }
  | _ => none }
def FnExactCommandValidWrongFalsely : Prop := fnExactCommandValidRow.holds Try.pinned (OpenSpec.ofChange fnExactCommandValidWrong)

/-- 'laws.FnExactCommandsClash': WHATEVER THE INPUT: true; the input reads as it did. -/
def fnExactCommandsClashSpec : ChangeSpec := { name := "fnExactCommandsClash", fn := fun _ => fun
  | [d1, d2] => { results := [.lit (.bool true)], args := [d1, d2] }
  | _ => none }
def fnExactCommandsClashRow : OpenClaim := { program := "ythdofjfjefcfpaa", sum := "49b5dca9bb77b10607937664c4fa7e115fdf185fdbaa051b63c0582b33d2b815", func := "loop.example/leaderlesslog/laws.FnExactCommandsClash", spec := "fnExactCommandsClash", unfollowed := true, recurses := true, apart := false }
def FnExactCommandsClashSaid : Prop := fnExactCommandsClashRow.holds Try.pinned (OpenSpec.ofChange fnExactCommandsClashSpec)

/-- ITS FALSE NEIGHBOUR: 'it returns false'. Refute it at one input. -/
def fnExactCommandsClashWrong : ChangeSpec := { name := "fnExactCommandsClash", fn := fun _ => fun
  | [d1, d2] => { results := [.lit (.bool false)], args := [d1, d2] }
  | _ => none }
def FnExactCommandsClashWrongFalsely : Prop := fnExactCommandsClashRow.holds Try.pinned (OpenSpec.ofChange fnExactCommandsClashWrong)

/-- 'laws.FnExactCommandText': WHATEVER THE INPUT: true; the input reads as it did. -/
def fnExactCommandTextSpec : ChangeSpec := { name := "fnExactCommandText", fn := fun _ => fun
  | [d] => { results := [.lit (.bool true)], args := [d] }
  | _ => none }
def fnExactCommandTextRow : OpenClaim := { program := "ythdofjfjefcfpaa", sum := "49b5dca9bb77b10607937664c4fa7e115fdf185fdbaa051b63c0582b33d2b815", func := "loop.example/leaderlesslog/laws.FnExactCommandText", spec := "fnExactCommandText", unfollowed := true, recurses := true, apart := false }
def FnExactCommandTextSaid : Prop := fnExactCommandTextRow.holds Try.pinned (OpenSpec.ofChange fnExactCommandTextSpec)

/-- ITS FALSE NEIGHBOUR: 'it returns false'. Refute it at one input. -/
def fnExactCommandTextWrong : ChangeSpec := { name := "fnExactCommandText", fn := fun _ => fun
  | [d] => { results := [.lit (.bool false)], args := [d] }
  | _ => none }
def FnExactCommandTextWrongFalsely : Prop := fnExactCommandTextRow.holds Try.pinned (OpenSpec.ofChange fnExactCommandTextWrong)

/- THE SECOND FORM. 'bulk': how many values and letters a reading holds, each counted each time it is reached (what is shared counts as often as it is met; a slice's spare places count too). A statement '..UptoSaid' is the law's where the arguments, and the package variables that the reading takes, are together of bulk at most 1048576: NARROWER than '..Said'. Prove '..Said' where nothing that the law and all that it calls make is longer than what came in: it says more and counts as full. Else prove '..UptoSaid'. A law counts once. -/
mutual
def uptoBulk {H : Type} : DataW H → Nat
  | .lit (.string bytes) => bytes.length + 1
  | .lit _ => 1
  | .nil => 1
  | .ptr d => uptoBulk d + 1
  | .slice elems spare => uptoBulkAll elems + uptoBulkAll spare + 1
  | .agg parts => uptoBulkAll parts + 1
  | .iface _ d => uptoBulk d + 1
  | .map entries => uptoBulkEntries entries + 1
  | .held _ => 1
def uptoBulkAll {H : Type} : List (DataW H) → Nat
  | [] => 0
  | d :: r => uptoBulk d + uptoBulkAll r
def uptoBulkEntries {H : Type} : List (Lit × DataW H) → Nat
  | [] => 0
  | x :: r => uptoBulkEntry x + uptoBulkEntries r
def uptoBulkEntry {H : Type} : Lit × DataW H → Nat
  | (.string bytes, d) => bytes.length + uptoBulk d + 1
  | (_, d) => uptoBulk d + 1
 end
def uptoSmall : (H : Type) → List (DataW H) → Bool := fun _ ds => decide (uptoBulkAll ds ≤ 1048576)
def OpenSpec.upto (s : _root_.Go.ChangeSpec) : _root_.Go.OpenSpec := { _root_.Go.OpenSpec.ofChange s with cond := some uptoSmall }

/-- 'laws.FnClash', WHERE WHAT IT READS IS OF BULK AT MOST 1048576: true; the input reads as it did. -/
def fnClashUptoRow : OpenClaim := { program := "ythdofjfjefcfpaa", sum := "49b5dca9bb77b10607937664c4fa7e115fdf185fdbaa051b63c0582b33d2b815", func := "loop.example/leaderlesslog/laws.FnClash", spec := "fnClash", unfollowed := true, recurses := true, apart := false, narrowed := true }
def FnClashUptoSaid : Prop := fnClashUptoRow.holds Try.pinned (OpenSpec.upto fnClashSpec)

/-- 'laws.FnClashKey', WHERE WHAT IT READS IS OF BULK AT MOST 1048576: true; the input reads as it did. -/
def fnClashKeyUptoRow : OpenClaim := { program := "ythdofjfjefcfpaa", sum := "49b5dca9bb77b10607937664c4fa7e115fdf185fdbaa051b63c0582b33d2b815", func := "loop.example/leaderlesslog/laws.FnClashKey", spec := "fnClashKey", unfollowed := true, recurses := true, apart := false, narrowed := true }
def FnClashKeyUptoSaid : Prop := fnClashKeyUptoRow.holds Try.pinned (OpenSpec.upto fnClashKeySpec)

/-- 'laws.FnCommandPart', WHERE WHAT IT READS IS OF BULK AT MOST 1048576: true; the input reads as it did. -/
def fnCommandPartUptoRow : OpenClaim := { program := "ythdofjfjefcfpaa", sum := "49b5dca9bb77b10607937664c4fa7e115fdf185fdbaa051b63c0582b33d2b815", func := "loop.example/leaderlesslog/laws.FnCommandPart", spec := "fnCommandPart", apart := false, narrowed := true }
def FnCommandPartUptoSaid : Prop := fnCommandPartUptoRow.holds Try.pinned (OpenSpec.upto fnCommandPartSpec)

/-- 'laws.FnClashNone', WHERE WHAT IT READS IS OF BULK AT MOST 1048576: true; the input reads as it did. -/
def fnClashNoneUptoRow : OpenClaim := { program := "ythdofjfjefcfpaa", sum := "49b5dca9bb77b10607937664c4fa7e115fdf185fdbaa051b63c0582b33d2b815", func := "loop.example/leaderlesslog/laws.FnClashNone", spec := "fnClashNone", unfollowed := true, recurses := true, apart := false, narrowed := true }
def FnClashNoneUptoSaid : Prop := fnClashNoneUptoRow.holds Try.pinned (OpenSpec.upto fnClashNoneSpec)

/-- 'laws.FnExactCommandValid', WHERE WHAT IT READS IS OF BULK AT MOST 1048576: true; the input reads as it did. -/
def fnExactCommandValidUptoRow : OpenClaim := { program := "ythdofjfjefcfpaa", sum := "49b5dca9bb77b10607937664c4fa7e115fdf185fdbaa051b63c0582b33d2b815", func := "loop.example/leaderlesslog/laws.FnExactCommandValid", spec := "fnExactCommandValid", apart := false, narrowed := true }
def FnExactCommandValidUptoSaid : Prop := fnExactCommandValidUptoRow.holds Try.pinned (OpenSpec.upto fnExactCommandValidSpec)

/-- 'laws.FnExactCommandsClash', WHERE WHAT IT READS IS OF BULK AT MOST 1048576: true; the input reads as it did. -/
def fnExactCommandsClashUptoRow : OpenClaim := { program := "ythdofjfjefcfpaa", sum := "49b5dca9bb77b10607937664c4fa7e115fdf185fdbaa051b63c0582b33d2b815", func := "loop.example/leaderlesslog/laws.FnExactCommandsClash", spec := "fnExactCommandsClash", unfollowed := true, recurses := true, apart := false, narrowed := true }
def FnExactCommandsClashUptoSaid : Prop := fnExactCommandsClashUptoRow.holds Try.pinned (OpenSpec.upto fnExactCommandsClashSpec)

/-- 'laws.FnExactCommandText', WHERE WHAT IT READS IS OF BULK AT MOST 1048576: true; the input reads as it did. -/
def fnExactCommandTextUptoRow : OpenClaim := { program := "ythdofjfjefcfpaa", sum := "49b5dca9bb77b10607937664c4fa7e115fdf185fdbaa051b63c0582b33d2b815", func := "loop.example/leaderlesslog/laws.FnExactCommandText", spec := "fnExactCommandText", unfollowed := true, recurses := true, apart := false, narrowed := true }
def FnExactCommandTextUptoSaid : Prop := fnExactCommandTextUptoRow.holds Try.pinned (OpenSpec.upto fnExactCommandTextSpec)

end Rows
end Go.Proofs.Ythdofjfjefcfpaa
