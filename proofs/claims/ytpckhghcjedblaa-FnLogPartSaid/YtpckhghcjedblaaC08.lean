/- Texts laid together. -/
import Derived.Test.YtpckhghcjedblaaC01
import Derived.Maps.OwnSet
import Derived.DeepKeys4
/- A map by ids: what it holds, as a function of the id. -/
namespace Go.Proofs.Ytpckhghcjedblaa
open Go.RowKit
open Go.Maps (Keyed IsMap)
set_option linter.unusedVariables false
set_option maxRecDepth 100000

theorem wide_id : (match Try.prog.underlying 25 with | some (.array _ _) | some (.struct _) => true | _ => false) = true := by rw [Try.underlying25]
theorem id_law : Keyed Try.prog 25 := Keyed.of_law (deep_law_laid (show laidOutB Try.prog = true by kernel_rfl) (m := 2) (by omega) (show (25 : TypeId) < Try.prog.types.size from of_decide_eq_true (by kernel_rfl)) (by kernel_rfl) wide_id)
/-- In the range of int. -/
def inR (a : Pid) : Prop := (Lit.int .i64 a.1).wf = true ∧ (Lit.int .i64 a.2).wf = true
def idv2 (a : Pid) : Value := .agg #[.int .i64 a.1, .int .i64 a.2]
/-- What an id reads as, as a key. -/
noncomputable def klP (a : Pid) : Lit := (keyOf Try.prog 25 (idv2 a)).getD .nil
theorem key_of {a : Pid} (h : inR a) : keyOf Try.prog 25 (idv2 a) = some (klP a) := by
  have hs : (keyOf Try.prog 25 (idv2 a)).isSome = true := by
    obtain ⟨m, hm⟩ : ∃ m, Try.prog.types.size = m + 1 := ⟨Try.prog.types.size - 1, (Nat.succ_pred_eq_of_pos (of_decide_eq_true (by kernel_rfl))).symm⟩
    have c2 : Try.prog.cellsOf 25 = 2 := by kernel_rfl
    have c1 : Try.prog.cellsOf 3 = 1 := by kernel_rfl
    have kt : Try.prog.keyType 25 = true := by kernel_rfl
    obtain ⟨h1, h2⟩ := h
    unfold keyOf idv2
    rw [hm]
    simp [Try.underlying25, Try.underlying3, kt, Value.formed, Value.cells, Program.keyLits, c1, c2, h1, h2]
  unfold klP
  cases e : keyOf Try.prog 25 (idv2 a) with
  | none => rw [e] at hs; cases hs
  | some l => rfl
theorem kl_key {a : Pid} (h : inR a) : WideAt.IsKeyLit (klP a) := id_law.key (key_of h)
theorem kl_inj {a b : Pid} (ha : inR a) (hb : inR b) (e : klP a = klP b) : a = b := by
  have h1 := key_of ha
  have h2 := key_of hb
  rw [e] at h1
  have := id_law.inj h1 h2
  unfold idv2 at this
  injection this with this
  have e1 := congrArg (fun x : Array Value => x[0]?) this
  have e2 := congrArg (fun x : Array Value => x[1]?) this
  simp at e1 e2
  exact Prod.ext e1 e2
theorem make_book (n : Int) (w : World) : (Instr.makeMap 71 (some (.int .i64 n))).run Try.prog w = .ok (.map (some w.heap.size)) (w.alloc (.map #[] 0)) := by
  unfold Instr.makeMap
  simp [go_sem]
/-- Elements as they are. -/
def Rv (v : Value) : Option (DataW Value × List MemPlace) := some (.held v, [])
/-- Block bb is a map of at most n entries that holds M. -/
def Book (w : World) (bb n : Nat) (M : Pid → Option Value) : Prop :=
  ∃ D : DataW Value, w.ownsMap Try.prog 25 Rv bb n D ∧ (∀ a, inR a → Maps.has D (klP a) = (M a).isSome ∧ ∀ v, M a = some v → ∀ zd, D.atKey (klP a) zd = .held v)
theorem Book.made (w : World) : Book (w.alloc (.map #[] 0)) w.heap.size 0 fun _ => none :=
  ⟨.map [], World.ownsMap_made _ _ _ _, fun a _ => ⟨rfl, fun v h => nomatch h⟩⟩
theorem Book.lt {w : World} {bb n : Nat} {M : Pid → Option Value} (h : Book w bb n M) : bb < w.heap.size := by obtain ⟨D, h, _⟩ := h; exact h.lt
theorem Book.same {w w' : World} {bb n : Nat} {M : Pid → Option Value} (h : Book w bb n M) (e : w'.heap[bb]? = w.heap[bb]?) : Book w' bb n M := by
  obtain ⟨D, ⟨es, clock, hb, r⟩, h2⟩ := h
  exact ⟨D, ⟨es, clock, e.trans hb, r⟩, h2⟩
theorem Book.up {w w' : World} {bb n B : Nat} {M : Pid → Option Value} (h : Book w bb n M) (hb : Below B w w') (hB : bb < B) : Book w' bb n M := h.same (hb.block bb hB)
theorem inR_ok {a : Pid} (h : okP a = true) : inR a := by
  have : 0 ≤ a.1 ∧ a.1 ≤ 4 ∧ 1 ≤ a.2 ∧ a.2 ≤ 50 := by simpa [okP, idB] using h
  exact ⟨WalkArith.wf_i64 (by omega), WalkArith.wf_i64 (by omega)⟩
/-- An entry is stored. -/
theorem Book.put {w : World} {bb n : Nat} {M : Pid → Option Value} {t e : TypeId} (h : Book w bb n M) (ht : Try.prog.underlying t = some (.map 25 e)) (hn : n < maxLen) {a : Pid} (ha : inR a) (v : Value) :
    ∃ w', (Instr.mapUpdate t (.map (some bb)) (idv2 a) v).run Try.prog w = .ok () w' ∧ Book w' bb (n + 1) (fun x => if x = a then some v else M x) ∧ w.grownBy w' (some bb) := by
  obtain ⟨D, h1, h2⟩ := h
  obtain ⟨w', r1, r2, r3⟩ := h1.update id_law ht hn (key_of ha) (d := .held v) (ps := []) rfl
  refine ⟨w', r1, ⟨_, r2, fun x hx => ?_⟩, r3⟩
  dsimp only
  by_cases e : x = a
  · subst e
    rw [if_pos rfl]
    exact ⟨Maps.has_put_same h1.isMap (kl_key hx) _, fun v' h' zd => by injection h' with h'; subst h'; exact Maps.atKey_put_same h1.isMap (kl_key hx) _ _⟩
  · rw [if_neg e]
    have hne : klP x ≠ klP a := fun h => e (kl_inj hx ha h)
    exact ⟨(Maps.has_put_other hne _).trans (h2 x hx).1, fun v' h' zd => (Maps.atKey_put_other hne _ _).trans ((h2 x hx).2 v' h' zd)⟩
/-- An entry is looked up. -/
theorem Book.look {w : World} {bb n : Nat} {M : Pid → Option Value} {t e : TypeId} (h : Book w bb n M) (ht : Try.prog.underlying t = some (.map 25 e)) {z : Value} (hz : (zeroValue e).run Try.prog w = .ok z w) {a : Pid} (ha : inR a) :
    (Instr.lookup t (.map (some bb)) (idv2 a) true).run Try.prog w = .ok (.tuple #[(M a).getD z, .bool (M a).isSome]) w := by
  obtain ⟨D, h1, h2⟩ := h
  obtain ⟨v, ps, r1, r2⟩ := h1.look_ok id_law ht hz (zd := .held z) (zp := []) rfl (key_of ha)
  obtain ⟨g1, g2⟩ := h2 a ha
  rw [r1, g1]
  have e : v = (M a).getD z := by
    unfold Rv at r2
    injection r2 with r2
    injection r2 with r2 _
    cases hM : M a with
    | none =>
      rw [hM] at g1
      rw [Maps.atKey_of_not_has (by simpa using g1)] at r2
      injection r2
    | some v' =>
      rw [g2 v' hM] at r2
      injection r2
  rw [e]
theorem book_nil {w : World} {t e : TypeId} (ht : Try.prog.underlying t = some (.map 25 e)) {z : Value} (hz : (zeroValue e).run Try.prog w = .ok z w) {a : Pid} (ha : inR a) :
    (Instr.lookup t (.map none) (idv2 a) true).run Try.prog w = .ok (.tuple #[z, .bool false]) w := Maps.look_nil true id_law ht hz (key_of ha)
end Go.Proofs.Ytpckhghcjedblaa

/- Nine cells stored, one after the other. -/
namespace Go.Proofs.Ytpckhghcjedblaa
open Go.RowKit
set_option linter.unusedVariables false

theorem put9_at {w : World} {b : Nat} {t : TypeId} {y0 y1 y2 y3 y4 y5 y6 y7 y8 : Value} (x0 x1 x2 x3 x4 x5 x6 x7 x8 : Value) (h : w.heap[b]? = some (.cells #[y0, y1, y2, y3, y4, y5, y6, y7, y8] t (0, 0))) :
    (((((((((w.setCell ⟨b, 0, none⟩ x0).setCell ⟨b, 1, none⟩ x1).setCell ⟨b, 2, none⟩ x2).setCell ⟨b, 3, none⟩ x3).setCell ⟨b, 4, none⟩ x4).setCell ⟨b, 5, none⟩ x5).setCell ⟨b, 6, none⟩ x6).setCell ⟨b, 7, none⟩ x7).setCell ⟨b, 8, none⟩ x8).heap[b]? = some (.cells #[x0, x1, x2, x3, x4, x5, x6, x7, x8] t (0, 0)) := by
  have e := heap_setCell_same _ b 8 _ _ x8 (heap_setCell_same _ b 7 _ _ x7 (heap_setCell_same _ b 6 _ _ x6 (heap_setCell_same _ b 5 _ _ x5 (heap_setCell_same _ b 4 _ _ x4 (heap_setCell_same _ b 3 _ _ x3 (heap_setCell_same _ b 2 _ _ x2 (heap_setCell_same _ b 1 _ _ x1 (heap_setCell_same _ b 0 _ _ x0 (h)))))))))
  simp only [List.setIfInBounds_toArray, List.set_cons_zero, List.set_cons_succ] at e
  exact e
theorem put9_other {w : World} {b c : Nat} (x0 x1 x2 x3 x4 x5 x6 x7 x8 : Value) (h : c ≠ b) :
    (((((((((w.setCell ⟨b, 0, none⟩ x0).setCell ⟨b, 1, none⟩ x1).setCell ⟨b, 2, none⟩ x2).setCell ⟨b, 3, none⟩ x3).setCell ⟨b, 4, none⟩ x4).setCell ⟨b, 5, none⟩ x5).setCell ⟨b, 6, none⟩ x6).setCell ⟨b, 7, none⟩ x7).setCell ⟨b, 8, none⟩ x8).heap[c]? = w.heap[c]? := by
  rw [heap_setCell_other _ _ _ _ h, heap_setCell_other _ _ _ _ h, heap_setCell_other _ _ _ _ h, heap_setCell_other _ _ _ _ h, heap_setCell_other _ _ _ _ h, heap_setCell_other _ _ _ _ h, heap_setCell_other _ _ _ _ h, heap_setCell_other _ _ _ _ h, heap_setCell_other _ _ _ _ h]
theorem put9_below {w : World} {b B : Nat} (x0 x1 x2 x3 x4 x5 x6 x7 x8 : Value) (h : B ≤ b) :
    Below B w (((((((((w.setCell ⟨b, 0, none⟩ x0).setCell ⟨b, 1, none⟩ x1).setCell ⟨b, 2, none⟩ x2).setCell ⟨b, 3, none⟩ x3).setCell ⟨b, 4, none⟩ x4).setCell ⟨b, 5, none⟩ x5).setCell ⟨b, 6, none⟩ x6).setCell ⟨b, 7, none⟩ x7).setCell ⟨b, 8, none⟩ x8) :=
  (((((((((Below.refl B w).setCell (p := ⟨b, 0, none⟩) h x0).setCell (p := ⟨b, 1, none⟩) h x1).setCell (p := ⟨b, 2, none⟩) h x2).setCell (p := ⟨b, 3, none⟩) h x3).setCell (p := ⟨b, 4, none⟩) h x4).setCell (p := ⟨b, 5, none⟩) h x5).setCell (p := ⟨b, 6, none⟩) h x6).setCell (p := ⟨b, 7, none⟩) h x7).setCell (p := ⟨b, 8, none⟩) h x8
theorem nine_all {w : World} {b : Nat} {x0 x1 x2 x3 x4 x5 x6 x7 x8 : Value} {t : TypeId} (h : w.heap[b]? = some (.cells #[x0, x1, x2, x3, x4, x5, x6, x7, x8] t (0, 0))) :
    (w.cell? ⟨b, 0, none⟩ = some x0 ∧ w.cell? ⟨b, 1, none⟩ = some x1 ∧ w.cell? ⟨b, 2, none⟩ = some x2 ∧ w.cell? ⟨b, 3, none⟩ = some x3 ∧ w.cell? ⟨b, 4, none⟩ = some x4 ∧ w.cell? ⟨b, 5, none⟩ = some x5 ∧ w.cell? ⟨b, 6, none⟩ = some x6 ∧ w.cell? ⟨b, 7, none⟩ = some x7 ∧ w.cell? ⟨b, 8, none⟩ = some x8) ∧ (w.frozen? ⟨b, 0, none⟩ = false ∧ w.frozen? ⟨b, 1, none⟩ = false ∧ w.frozen? ⟨b, 2, none⟩ = false ∧ w.frozen? ⟨b, 3, none⟩ = false ∧ w.frozen? ⟨b, 4, none⟩ = false ∧ w.frozen? ⟨b, 5, none⟩ = false ∧ w.frozen? ⟨b, 6, none⟩ = false ∧ w.frozen? ⟨b, 7, none⟩ = false ∧ w.frozen? ⟨b, 8, none⟩ = false) ∧ b < w.heap.size :=
  ⟨nine_cells h, ⟨nine_free h 0, nine_free h 1, nine_free h 2, nine_free h 3, nine_free h 4, nine_free h 5, nine_free h 6, nine_free h 7, nine_free h 8⟩, lt_of_heap h⟩
end Go.Proofs.Ytpckhghcjedblaa
