/-
  The statement 'FnExactEntryValidSaid': for every input the law answers true, and each argument reads afterwards as it read before. No condition.
-/
import Derived.Test.YtanjogflolmgdaaRows
import Derived.Test.YtanjogflolmgdaaC05
import Derived.Test.YtanjogflolmgdaaC10
import Derived.ProofKit
import Derived.OpenShut
import Derived.ShutString
import Derived.ChangeOld
import Derived.Lib.SmallJoins
namespace Go.Proofs.Ytanjogflolmgdaa.fnExactEntryValid
open Go.ChangeShapes Go.WideShapes Go.ChangeAt Go.RowKit Go.Joins
set_option linter.unusedVariables false
open Go.ChangeMaps (open_string shut_string)

set_option maxRecDepth 100000 in
theorem lifted (os : Os) (started : os.Started) (H : Type) (enc : TypeId × Value → H) :
    ReturnsInHanded {} Try.checked os 9 .any (Rows.fnExactEntryValidSpec.pre6 enc Try.prog Try.f9 Rows.fnExactEntryValidRow.domain false) (Rows.fnExactEntryValidSpec.post enc Try.prog Try.f9 false true false false) := by
  refine returnsInHanded_of_change (C := Try.checked) own started (by kernel_rfl) Try.func9
    (ChangeSpec.witness6 (enc := enc) (C := Try.checked) false ⟨#[], #[.agg #[.int .i64 0, .int .i64 0, .int .i64 0, .int .i64 0, .int .i64 0, .int .i64 0, .int .i64 0, .int .i64 0, .slice none 0 0]], []⟩ 8 (by kernel_rfl) (by kernel_rfl) (by kernel_rfl) (by kernel_rfl)) ?_
  intro W base args ds gs before hval0 hW _ _
  have hval : ∀ (j : Nat) t v, Try.f9.params[j]? = some t → args[j]? = some v → Value.okWide Try.prog W .any base t v := hval0
  have hW' := hW
  obtain ⟨p, q, hA0, hV, rfl, _, _⟩ := hW
  have hA : DataW.TrodAll enc Try.prog W 0 (fun _ => true) true Try.f9.params.toList args.toList ds p := hA0
  rw [Try.params9] at hA hval
  obtain ⟨v0, vs0, d0, ds0, p0, q0, hargs, rfl, rfl, h0, r0⟩ := trodAll_cons hA
  obtain ⟨rfl, rfl, rfl⟩ := trodAll_nil r0
  obtain rfl : args = #[v0] := by cases args; simp_all
  obtain ⟨rfl, rfl⟩ := trodVars_none hV
  have k0 := h0
  have lt0 : ∀ x ∈ p0, x.block < W.heap.size := by obtain ⟨m, hm⟩ := k0; exact DataW.trod_lt m _ _ _ hm
  obtain ⟨cs0, rfl, hsz0⟩ := okWide_struct Try.underlying51 (hval 0 51 v0 rfl rfl)
  obtain ⟨x00, x01, x02, x03, x04, x05, x06, x07, a0, len0, cap0, hl0, hc0⟩ := (show ∃ (p r bal st k key v s : Int) (ua : Option Addr) (un uc : Nat), cs0.toList = [.int .i64 p, .int .i64 r, .int .i64 bal, .int .i64 st, .int .i64 k, .int .i64 key, .int .i64 v, .int .i64 s, .slice ua un uc] ∧ IdsIn W ua un uc from by
    obtain ⟨fuel, hf⟩ := h0
    exact en_of_trod (by rw [Array.length_toList, hsz0, cells_lawsEnR]) (by simpa [Value.cells] using hf))
  obtain rfl : cs0 = #[.int .i64 x00, .int .i64 x01, .int .i64 x02, .int .i64 x03, .int .i64 x04, .int .i64 x05, .int .i64 x06, .int .i64 x07, .slice a0 len0 cap0] := by rw [← Array.toArray_toList (xs := cs0), hl0]
  clear hA0 hval0
  refine (exEntryValid_any x00 x01 x02 x03 x04 x05 x06 x07 a0 len0 cap0 W hc0.1 hc0.2).mono fun e W' ⟨he, bel⟩ => ?_
  subst he
  exact ⟨_, rfl, _, _, _, [], _, [], hW', trodAll_mk1 (shut_bool Try.underlying4 _), (trodAll_cons_mk (Below.trod laidOut (by kernel_rfl) (of_decide_eq_true (by kernel_rfl)) k0 bel lt0) trodAll_mk0), rfl, bel.frame _, fun h => by cases h⟩

theorem over : Rows.fnExactEntryValidRow.holds Try.pinned (OpenSpec.ofChange Rows.fnExactEntryValidSpec) :=
  OpenClaim.holds_of_wide 9 Try.f9 rfl rfl rfl rfl rfl rfl rfl ⟨rfl, rfl, rfl, rfl, rfl⟩ rfl rfl rfl rfl rfl (by kernel_rfl) Try.func9 (by kernel_rfl)
    (of_decide_eq_true (by kernel_rfl)) (by unfold Func.isWrapper; first | (rw [if_pos (by decide +kernel)]; kernel_rfl) | (rw [if_neg (by decide +kernel)]; exact ⟨rfl, rfl⟩))
    (fun os started H enc _ => lifted os started H enc)

end Go.Proofs.Ytanjogflolmgdaa.fnExactEntryValid
namespace Go.Proofs.Ytanjogflolmgdaa
theorem fnExactEntryValid_holds : Rows.FnExactEntryValidSaid := fnExactEntryValid.over
#print axioms fnExactEntryValid_holds
end Go.Proofs.Ytanjogflolmgdaa
