/- Texts laid together. -/
import Derived.Test.YtpckhghcjedblaaDoorC01
import Derived.Maps.OwnSet
import Derived.DeepKeys4
/- A map by ids: what it holds, as a function of the id. -/
namespace Go.Proofs.YtpckhghcjedblaaDoor
open Go.RowKit
open Go.Maps (Keyed IsMap)
set_option linter.unusedVariables false
set_option maxRecDepth 100000

theorem wide_id : (match Tryd.prog.underlying 25 with | some (.array _ _) | some (.struct _) => true | _ => false) = true := by rw [Tryd.underlying25]
theorem id_law : Keyed Tryd.prog 25 := Keyed.of_law (deep_law_laid (show laidOutB Tryd.prog = true by kernel_rfl) (m := 2) (by omega) (show (25 : TypeId) < Tryd.prog.types.size from of_decide_eq_true (by kernel_rfl)) (by kernel_rfl) wide_id)
/-- In the range of int. -/
def inR (a : Pid) : Prop := (Lit.int .i64 a.1).wf = true ∧ (Lit.int .i64 a.2).wf = true
def idv2 (a : Pid) : Value := .agg #[.int .i64 a.1, .int .i64 a.2]
/-- What an id reads as, as a key. -/
noncomputable def klP (a : Pid) : Lit := (keyOf Tryd.prog 25 (idv2 a)).getD .nil
theorem key_of {a : Pid} (h : inR a) : keyOf Tryd.prog 25 (idv2 a) = some (klP a) := by
  have hs : (keyOf Tryd.prog 25 (idv2 a)).isSome = true := by
    obtain ⟨m, hm⟩ : ∃ m, Tryd.prog.types.size = m + 1 := ⟨Tryd.prog.types.size - 1, (Nat.succ_pred_eq_of_pos (of_decide_eq_true (by kernel_rfl))).symm⟩
    have c2 : Tryd.prog.cellsOf 25 = 2 := by kernel_rfl
    have c1 : Tryd.prog.cellsOf 3 = 1 := by kernel_rfl
    have kt : Tryd.prog.keyType 25 = true := by kernel_rfl
    obtain ⟨h1, h2⟩ := h
    unfold keyOf idv2
    rw [hm]
    simp [Tryd.underlying25, Tryd.underlying3, kt, Value.formed, Value.cells, Program.keyLits, c1, c2, h1, h2]
  unfold klP
  cases e : keyOf Tryd.prog 25 (idv2 a) with
  | none => rw [e] at hs; cases hs
  | some l => rfl
theorem kl_key {a : Pid} (h : inR a) : WideAt.IsKeyLit (klP a) := id_law.key (key_of h)
theorem kl_inj {a b : Pid} (ha : inR a) (hb : inR b) (e : klP a = klP b) : a = b := by
  have h1 := key_of ha
  have h2 := key_of hb
  rw [e] at h1
  have := id_law.inj h1 h2
  unfold idv2 at this
  injection this with this
  have e1 := congrArg (fun x : Array Value => x[0]?) this
  have e2 := congrArg (fun x : Array Value => x[1]?) this
  simp at e1 e2
  exact Prod.ext e1 e2
theorem make_book (n : Int) (w : World) : (Instr.makeMap 58 (some (.int .i64 n))).run Tryd.prog w = .ok (.map (some w.heap.size)) (w.alloc (.map #[] 0)) := by
  unfold Instr.makeMap
  simp [go_sem]
/-- Elements as they are. -/
def Rv (v : Value) : Option (DataW Value × List MemPlace) := some (.held v, [])
/-- Block bb is a map of at most n entries that holds M. -/
def Book (w : World) (bb n : Nat) (M : Pid → Option Value) : Prop :=
  ∃ D : DataW Value, w.ownsMap Tryd.prog 25 Rv bb n D ∧ (∀ a, inR a → Maps.has D (klP a) = (M a).isSome ∧ ∀ v, M a = some v → ∀ zd, D.atKey (klP a) zd = .held v)
theorem Book.made (w : World) : Book (w.alloc (.map #[] 0)) w.heap.size 0 fun _ => none :=
  ⟨.map [], World.ownsMap_made _ _ _ _, fun a _ => ⟨rfl, fun v h => nomatch h⟩⟩
theorem Book.lt {w : World} {bb n : Nat} {M : Pid → Option Value} (h : Book w bb n M) : bb < w.heap.size := by obtain ⟨D, h, _⟩ := h; exact h.lt
theorem Book.same {w w' : World} {bb n : Nat} {M : Pid → Option Value} (h : Book w bb n M) (e : w'.heap[bb]? = w.heap[bb]?) : Book w' bb n M := by
  obtain ⟨D, ⟨es, clock, hb, r⟩, h2⟩ := h
  exact ⟨D, ⟨es, clock, e.trans hb, r⟩, h2⟩
theorem Book.up {w w' : World} {bb n B : Nat} {M : Pid → Option Value} (h : Book w bb n M) (hb : Below B w w') (hB : bb < B) : Book w' bb n M := h.same (hb.block bb hB)
theorem inR_ok {a : Pid} (h : okP a = true) : inR a := by
  have : 0 ≤ a.1 ∧ a.1 ≤ 4 ∧ 1 ≤ a.2 ∧ a.2 ≤ 50 := by simpa [okP, idB] using h
  exact ⟨WalkArith.wf_i64 (by omega), WalkArith.wf_i64 (by omega)⟩
/-- An entry is stored. -/
theorem Book.put {w : World} {bb n : Nat} {M : Pid → Option Value} {t e : TypeId} (h : Book w bb n M) (ht : Tryd.prog.underlying t = some (.map 25 e)) (hn : n < maxLen) {a : Pid} (ha : inR a) (v : Value) :
    ∃ w', (Instr.mapUpdate t (.map (some bb)) (idv2 a) v).run Tryd.prog w = .ok () w' ∧ Book w' bb (n + 1) (fun x => if x = a then some v else M x) ∧ w.grownBy w' (some bb) := by
  obtain ⟨D, h1, h2⟩ := h
  obtain ⟨w', r1, r2, r3⟩ := h1.update id_law ht hn (key_of ha) (d := .held v) (ps := []) rfl
  refine ⟨w', r1, ⟨_, r2, fun x hx => ?_⟩, r3⟩
  dsimp only
  by_cases e : x = a
  · subst e
    rw [if_pos rfl]
    exact ⟨Maps.has_put_same h1.isMap (kl_key hx) _, fun v' h' zd => by injection h' with h'; subst h'; exact Maps.atKey_put_same h1.isMap (kl_key hx) _ _⟩
  · rw [if_neg e]
    have hne : klP x ≠ klP a := fun h => e (kl_inj hx ha h)
    exact ⟨(Maps.has_put_other hne _).trans (h2 x hx).1, fun v' h' zd => (Maps.atKey_put_other hne _ _).trans ((h2 x hx).2 v' h' zd)⟩
/-- An entry is looked up. -/
theorem Book.look {w : World} {bb n : Nat} {M : Pid → Option Value} {t e : TypeId} (h : Book w bb n M) (ht : Tryd.prog.underlying t = some (.map 25 e)) {z : Value} (hz : (zeroValue e).run Tryd.prog w = .ok z w) {a : Pid} (ha : inR a) :
    (Instr.lookup t (.map (some bb)) (idv2 a) true).run Tryd.prog w = .ok (.tuple #[(M a).getD z, .bool (M a).isSome]) w := by
  obtain ⟨D, h1, h2⟩ := h
  obtain ⟨v, ps, r1, r2⟩ := h1.look_ok id_law ht hz (zd := .held z) (zp := []) rfl (key_of ha)
  obtain ⟨g1, g2⟩ := h2 a ha
  rw [r1, g1]
  have e : v = (M a).getD z := by
    unfold Rv at r2
    injection r2 with r2
    injection r2 with r2 _
    cases hM : M a with
    | none =>
      rw [hM] at g1
      rw [Maps.atKey_of_not_has (by simpa using g1)] at r2
      injection r2
    | some v' =>
      rw [g2 v' hM] at r2
      injection r2
  rw [e]
theorem book_nil {w : World} {t e : TypeId} (ht : Tryd.prog.underlying t = some (.map 25 e)) {z : Value} (hz : (zeroValue e).run Tryd.prog w = .ok z w) {a : Pid} (ha : inR a) :
    (Instr.lookup t (.map none) (idv2 a) true).run Tryd.prog w = .ok (.tuple #[z, .bool false]) w := Maps.look_nil true id_law ht hz (key_of ha)
end Go.Proofs.YtpckhghcjedblaaDoor

/- What reads as a key of a book. -/
namespace Go.Proofs.YtpckhghcjedblaaDoor
open Go.RowKit
set_option linter.unusedVariables false
set_option maxRecDepth 100000

/-- What reads as an id is one. -/
theorem key_inv {v : Value} {l : Lit} (h : keyOf Tryd.prog 25 v = some l) : ∃ a : Pid, v = idv2 a ∧ inR a := by
  obtain ⟨m, hm⟩ : ∃ m, Tryd.prog.types.size = m + 1 := ⟨Tryd.prog.types.size - 1, (Nat.succ_pred_eq_of_pos (of_decide_eq_true (by kernel_rfl))).symm⟩
  have c2 : Tryd.prog.cellsOf 25 = 2 := by kernel_rfl
  have c1 : Tryd.prog.cellsOf 3 = 1 := by kernel_rfl
  have kt : Tryd.prog.keyType 25 = true := by kernel_rfl
  unfold keyOf at h
  rw [hm, Tryd.underlying25] at h
  dsimp only at h
  split at h
  · rename_i hf
    rw [kt] at hf
    cases v with
    | agg cs =>
      have hs : cs.size = 2 := by simpa [Value.formed, Tryd.underlying25, c2] using hf
      obtain ⟨x, y, rfl⟩ : ∃ x y, cs = #[x, y] := by
        match cs, hs with
        | ⟨[x, y]⟩, _ => exact ⟨x, y, rfl⟩
      unfold Program.keyLits at h
      rw [Tryd.underlying25] at h
      simp [Value.cells, c2, c1, Program.keyLits, Tryd.underlying3] at h
      cases x with
      | int q n =>
        by_cases e1 : q = .i64 ∧ (Lit.int .i64 n).wf = true
        · cases y with
          | int q' n' =>
            by_cases e2 : q' = .i64 ∧ (Lit.int .i64 n').wf = true
            · obtain ⟨rfl, w1⟩ := e1
              obtain ⟨rfl, w2⟩ := e2
              exact ⟨(n, n'), rfl, w1, w2⟩
            · simp [e1, e2] at h
          | _ => simp [e1] at h
        · simp [e1] at h
      | _ => simp at h
    | _ => simp [Value.formed, Tryd.underlying25] at hf
  · cases h
theorem idv2_inj {x y : Pid} (h : idv2 x = idv2 y) : x = y := by
  unfold idv2 at h
  injection h with h
  have e1 := congrArg (fun x : Array Value => x[0]?) h
  have e2 := congrArg (fun x : Array Value => x[1]?) h
  simp at e1 e2
  exact Prod.ext e1 e2
end Go.Proofs.YtpckhghcjedblaaDoor
