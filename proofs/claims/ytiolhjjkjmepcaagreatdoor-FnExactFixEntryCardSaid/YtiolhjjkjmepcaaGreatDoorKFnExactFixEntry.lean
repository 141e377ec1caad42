/-
  The card of 'FnExactFixEntry': for every input the law answers true, and each argument reads afterwards as it read before; the two listed errors begin as the program's text lays them (the card ties them). No other condition.
-/
import Derived.Test.YtiolhjjkjmepcaaGreatDoorC33
import Derived.Test.YtiolhjjkjmepcaaGreatDoorC07
import Derived.ShutString
import Derived.Test.YtiolhjjkjmepcaaGreatDoorC30
import Derived.Test.YtiolhjjkjmepcaaGreatDoorC34
namespace Go.Proofs.YtiolhjjkjmepcaaGreatDoor.fnExactFixEntry
open Go.ChangeShapes Go.WideShapes Go.ChangeAt Go.RowKit Go.Joins
open Go.ChangeMaps (open_string shut_string)
set_option linter.unusedVariables false
set_option maxRecDepth 100000

theorem contract (H : Type) (enc : TypeId × Value → H) (W : World) (base : Nat) (args : Array Value) (ds gs : List (DataW H)) (before : List MemPlace)
    (hval : ∀ (j : Nat) t v, Tryz.f11.params[j]? = some t → args[j]? = some v → Value.okWide Tryz.prog W .any base t v)
    (hW : DataW.Whole enc Tryz.prog Tryz.f11.params.toList Rows.fnExactFixEntrySpec.vars false W args.toList ds gs before) (hL : laidMetH Tryz.prog listed W) (hsh : W.ShapedOpen Tryz.prog) :
    Calls Tryz.prog 11 args W fun e W' => ∃ v, e = .returned v ∧ Rows.fnExactFixEntrySpec.post enc Tryz.prog Tryz.f11 false true false false W args v W' := by
  have hW' := hW
  obtain ⟨p, q, hA0, hV, rfl, _, _⟩ := hW
  have hA : DataW.TrodAll enc Tryz.prog W 0 (fun _ => true) true Tryz.f11.params.toList args.toList ds p := hA0
  rw [Tryz.params11] at hA hval
  obtain ⟨v0, vs0, d0, ds0, p0, q0, hargs, rfl, rfl, h0, r0⟩ := trodAll_cons hA
  obtain ⟨v1, vs1, d1, ds1, p1, q1, rfl, rfl, rfl, h1, r1⟩ := trodAll_cons r0
  obtain ⟨rfl, rfl, rfl⟩ := trodAll_nil r1
  obtain rfl : args = #[v0, v1] := by cases args; simp_all
  obtain ⟨e0, e1, hv0, hv1, hS⟩ := gl_of hL hsh
  obtain ⟨rfl, rfl⟩ := hV.unique (vr_two enc hv0 hv1 _)
  have k0 := h0
  have lt0 : ∀ x ∈ p0, x.block < W.heap.size := by obtain ⟨m, hm⟩ := k0; exact DataW.trod_lt m _ _ _ hm
  obtain ⟨a0, len0, cap0, rfl⟩ := okWide_slice Tryz.underlying43 (hval 0 43 v0 rfl rfl)
  have hc0 : LEs W a0 len0 cap0 := by
    obtain ⟨fuel, hf⟩ := h0
    exact les_of_trod (by simpa [Value.cells] using hf)
  have k1 := h1
  have lt1 : ∀ x ∈ p1, x.block < W.heap.size := by obtain ⟨m, hm⟩ := k1; exact DataW.trod_lt m _ _ _ hm
  obtain ⟨cs1, rfl, hsz1⟩ := okWide_struct Tryz.underlying48 (hval 1 48 v1 rfl rfl)
  obtain ⟨x10, x11, x12, x13, x14, x15, x16, x17, a1, len1, cap1, hl1, hc1⟩ := (show ∃ (p r bal st k key v s : Int) (ua : Option Addr) (un uc : Nat), cs1.toList = [.int .i64 p, .int .i64 r, .int .i64 bal, .int .i64 st, .int .i64 k, .int .i64 key, .int .i64 v, .int .i64 s, .slice ua un uc] ∧ IdsIn W ua un uc ∧ (Lit.int .i64 p).wf = true ∧ (Lit.int .i64 r).wf = true from by
    obtain ⟨fuel, hf⟩ := h1
    exact en_of_trodW (by rw [Array.length_toList, hsz1, cells_lawsEnR]) (by simpa [Value.cells] using hf))
  obtain rfl : cs1 = #[.int .i64 x10, .int .i64 x11, .int .i64 x12, .int .i64 x13, .int .i64 x14, .int .i64 x15, .int .i64 x16, .int .i64 x17, .slice a1 len1 cap1] := by rw [← Array.toArray_toList (xs := cs1), hl1]
  clear hA0
  refine (exFixEntry_any a0 len0 cap0 x10 x11 x12 x13 x14 x15 x16 x17 a1 len1 cap1 W hc0 hc1.1.1 hc1.1.2 hc1.2 ⟨e0, e1, hS⟩).mono fun e W' ⟨he, bel⟩ => ?_
  subst he
  exact ⟨_, rfl, _, _, _, [], _, _, hW', trodAll_mk1 (shut_bool Tryz.underlying4 _), (trodAll_cons_mk (Below.trod laidOut (by kernel_rfl) (of_decide_eq_true (by kernel_rfl)) k0 bel lt0) (trodAll_cons_mk (Below.trod laidOut (by kernel_rfl) (of_decide_eq_true (by kernel_rfl)) k1 bel lt1) trodAll_mk0)), vr_two enc (hS.var0 hv0 bel) (hS.var1 hv1 bel) _, bel.frame _, fun h => by cases h⟩

set_option maxRecDepth 100000 in
theorem lifted (os : Os) (started : os.Started) (H : Type) (enc : TypeId × Value → H) (F : Stop.Interp) :
    ReturnsInHanded {} Tryz.checked os 11 .any ((OpenSpec.ofChange Rows.fnExactFixEntrySpec).preRow enc Tryz.prog Tryz.f11 Rows.fnExactFixEntryRow.domain false Rows.fnExactFixEntryRow.laid) (((OpenSpec.ofChange Rows.fnExactFixEntrySpec).at F).post enc Tryz.prog Tryz.f11 false true false false) := by
  refine returnsInHanded_of_row (C := Tryz.checked) (s := OpenSpec.ofChange Rows.fnExactFixEntrySpec) own started (by kernel_rfl) Tryz.func11
    (witness_row_atRef (enc := enc) (C := Tryz.checked) false (laidWorld os) #[.slice none 0 0, .agg #[.int .i64 0, .int .i64 0, .int .i64 0, .int .i64 0, .int .i64 0, .int .i64 0, .int .i64 0, .int .i64 0, .slice none 0 0]] rfl (by kernel_rfl) (by kernel_rfl) (by kernel_rfl)
      (OpenSpec.preRow_of_B rfl 8 (by kernel_rfl) (by kernel_rfl) (laid_met os #[.slice none 0 0, .agg #[.int .i64 0, .int .i64 0, .int .i64 0, .int .i64 0, .int .i64 0, .int .i64 0, .int .i64 0, .int .i64 0, .slice none 0 0]]))) ?_
  intro W base args ds gs before hval hW _ _ _ hL hsh _
  exact contract H enc W base args ds gs before hval hW hL hsh

theorem said : Rows.FnExactFixEntrySaid :=
  OpenClaim.holds_of_cond 11 Tryz.f11 rfl rfl rfl rfl rfl rfl rfl ⟨rfl, rfl, rfl, rfl, rfl⟩ rfl rfl rfl rfl rfl (by kernel_rfl) Tryz.func11 (by kernel_rfl)
    (of_decide_eq_true (by kernel_rfl)) (by unfold Func.isWrapper; first | (rw [if_pos (by decide +kernel)]; kernel_rfl) | (rw [if_neg (by decide +kernel)]; exact ⟨rfl, rfl⟩))
    (fun os started H enc _ F => by rw [OpenClaim.pre_eq_preRow]; exact lifted os started H enc F)

theorem plain (f : FuncId) (fn : Func) (hf : Tryz.pinned.checked.prog.funcNamed "loop.example/leaderlesslog/laws.FnExactFixEntry" = some f) (hfn : Tryz.pinned.checked.prog.funcs[f]? = some fn) :
    true = Tryz.pinned.checked.prog.looks [] ∧ ∀ (j : Nat) t, fn.params[j]? = some t → Tryz.pinned.checked.prog.wantsStandIn t = false := by
  obtain rfl : f = 11 := Option.some.inj ((show Tryz.prog.funcNamed "loop.example/leaderlesslog/laws.FnExactFixEntry" = some 11 by kernel_rfl).symm.trans hf) |>.symm
  obtain rfl : fn = Tryz.f11 := (Option.some.inj (Tryz.func11.symm.trans hfn)).symm
  refine ⟨by kernel_rfl, fun j t ht => ?_⟩
  rw [Tryz.params11] at ht
  rcases (by simpa using Array.mem_of_getElem? ht : t = 43 ∨ t = 48) with rfl | rfl
  · exact (show Tryz.prog.wantsStandIn 43 = false by kernel_rfl)
  · exact (show Tryz.prog.wantsStandIn 48 = false by kernel_rfl)

end Go.Proofs.YtiolhjjkjmepcaaGreatDoor.fnExactFixEntry
namespace Go.Proofs.YtiolhjjkjmepcaaGreatDoor
theorem fnExactFixEntry_card : Rows.FnExactFixEntryCardSaid :=
  Claim7.holds_tied_plain_at .later [] _ _ _ _ fnExactFixEntry.said (fun _ h => by cases h) (by kernel_rfl) (fun _ h => by cases h) fnExactFixEntry_row_tie rfl ⟨rfl, rfl⟩ (by kernel_rfl) rfl fnExactFixEntry.plain (by kernel_rfl)
#print axioms fnExactFixEntry_card
end Go.Proofs.YtiolhjjkjmepcaaGreatDoor
