/- Texts laid together. -/
import Derived.Test.YtdikcenhakfheaaGreatDoorC15
import Derived.Test.YtdikcenhakfheaaGreatDoorC07
import Derived.Test.YtdikcenhakfheaaGreatDoorC11
import Derived.Test.YtdikcenhakfheaaGreatDoorC12
/- What LogFind leaves. -/
namespace Go.Proofs.YtdikcenhakfheaaGreatDoor
open Go.RowKit
set_option linter.unusedVariables false

/-- What LogFind leaves. -/
def LfP (E : List En) (a : Pid) (w : World) (e : Ending) (w' : World) : Prop :=
  ∃ u, e = .returned (.tuple #[env (lfindR E a).1 u, .bool (lfindR E a).2]) ∧ OwZ w' w.heap.size w'.heap.size u (lfindR E a).1.deps ∧ Below w.heap.size w w'

end Go.Proofs.YtdikcenhakfheaaGreatDoor

/- Entries in boxes: what was found, in which order its box and its list were made. -/
namespace Go.Proofs.YtdikcenhakfheaaGreatDoor
open Go.RowKit
set_option linter.unusedVariables false

/-- An entry in a box. -/
def BxE (w : World) (xb : Nat) (X : En) (u : Value) : Prop := w.heap[xb]? = some (.cells #[.int .i64 X.id.1, .int .i64 X.id.2, .int .i64 X.bal, .int .i64 X.st, .int .i64 X.k, .int .i64 X.key, .int .i64 X.v, .int .i64 X.seq, u] 30 (0, 0))
theorem BxE.up {w w' : World} {xb : Nat} {X : En} {u : Value} (h : BxE w xb X u) (hb : Below w.heap.size w w') : BxE w' xb X u := (hb.block xb (lt_of_heap h)).trans h
theorem BxE.apart {w w' : World} {P : Nat → Prop} {xb : Nat} {X : En} {u : Value} (h : BxE w xb X u) (he : Exc P w w') (hn : ¬ P xb) : BxE w' xb X u := he.at hn h
theorem BxE.cells {w : World} {xb : Nat} {X : En} {u : Value} (h : BxE w xb X u) : (w.cell? ⟨xb, 0, none⟩ = some (.int .i64 X.id.1) ∧ w.cell? ⟨xb, 1, none⟩ = some (.int .i64 X.id.2) ∧ w.cell? ⟨xb, 2, none⟩ = some (.int .i64 X.bal) ∧ w.cell? ⟨xb, 3, none⟩ = some (.int .i64 X.st) ∧ w.cell? ⟨xb, 4, none⟩ = some (.int .i64 X.k) ∧ w.cell? ⟨xb, 5, none⟩ = some (.int .i64 X.key) ∧ w.cell? ⟨xb, 6, none⟩ = some (.int .i64 X.v) ∧ w.cell? ⟨xb, 7, none⟩ = some (.int .i64 X.seq) ∧ w.cell? ⟨xb, 8, none⟩ = some u) ∧ xb < w.heap.size := ⟨nine_cells h, lt_of_heap h⟩
/-- An entry in a box, with its list: neither is touched where the other is. -/
def FxE (w : World) (xb : Nat) (X : En) (u : Value) (B T : Nat) : Prop := BxE w xb X u ∧ OwZ w B T u X.deps ∧ ¬ (B ≤ xb ∧ xb < T)
theorem FxE.up {w w' : World} {xb B T : Nat} {X : En} {u : Value} (h : FxE w xb X u B T) (hb : Below w.heap.size w w') : FxE w' xb X u B T := ⟨h.1.up hb, h.2.1.up hb, h.2.2⟩
theorem FxE.apart {w w' : World} {P : Nat → Prop} {xb B T : Nat} {X : En} {u : Value} (h : FxE w xb X u B T) (he : Exc P w w') (hx : ¬ P xb) (hn : ∀ b, B ≤ b → b < T → ¬ P b) : FxE w' xb X u B T := ⟨h.1.apart he hx, h.2.1.apart he hn, h.2.2⟩
theorem OwZ.put9 {W : World} {B T xb : Nat} {u : Value} {C : List Pid} (h : OwZ W B T u C) (hn : ¬ (B ≤ xb ∧ xb < T)) (x0 x1 x2 x3 x4 x5 x6 x7 x8 : Value) : OwZ (((((((((W.setCell ⟨xb, 0, none⟩ x0).setCell ⟨xb, 1, none⟩ x1).setCell ⟨xb, 2, none⟩ x2).setCell ⟨xb, 3, none⟩ x3).setCell ⟨xb, 4, none⟩ x4).setCell ⟨xb, 5, none⟩ x5).setCell ⟨xb, 6, none⟩ x6).setCell ⟨xb, 7, none⟩ x7).setCell ⟨xb, 8, none⟩ x8) B T u C := by
  rcases h with h | ⟨b, h1, h2, h3⟩
  · exact .inl h
  · exact .inr ⟨b, h1, h2, h3.same (put9_other _ _ _ _ _ _ _ _ _ (fun e => hn (by subst e; exact ⟨h1, h2⟩)))⟩
/-- What a region that finds an entry leaves. -/
def LfQ (X : En) (q : Bool) (w : World) (s s' : Value) (wx : World) : Prop :=
  ∃ xb u B T, s = .pointer (some ⟨xb, 0, none⟩) ∧ s' = .bool q ∧ FxE wx xb X u B T ∧ w.heap.size ≤ xb ∧ w.heap.size ≤ B ∧ T ≤ wx.heap.size ∧ Below w.heap.size w wx
/-- Within the region: its box. -/
structure FE (w0 W : World) (ox : Option Nat) : Prop where
  kp : Below w0.heap.size w0 W
  bx : ∀ b, ox = some b → w0.heap.size ≤ b ∧ W.heap[b]? = some (.cells #[.int .i64 0, .int .i64 0, .int .i64 0, .int .i64 0, .int .i64 0, .int .i64 0, .int .i64 0, .int .i64 0, .slice none 0 0] 30 (0, 0))
theorem FE.start {w0 : World} : FE w0 w0.drew none := ⟨Below.drew (Below.refl _ _), fun _ h => nomatch h⟩
theorem FE.low {w0 W W' : World} {ox : Option Nat} (h : FE w0 W ox) (B : Below W.heap.size W W') : FE w0 W' ox :=
  ⟨bstep h.kp B, fun b e => ⟨(h.bx b e).1, (B.block b (lt_of_heap (h.bx b e).2)).trans (h.bx b e).2⟩⟩
theorem FE.box {w0 W : World} {ox : Option Nat} (h : FE w0 W ox) : FE w0 (W.alloc (.cells #[.int .i64 0, .int .i64 0, .int .i64 0, .int .i64 0, .int .i64 0, .int .i64 0, .int .i64 0, .int .i64 0, .slice none 0 0] 30)) (some W.heap.size) :=
  ⟨h.kp.alloc h.kp.size _, fun b e => by injection e with e; subst e; exact ⟨h.kp.size, heap_alloc_new W _⟩⟩
theorem FE.done {w0 W : World} {xb B T : Nat} {X : En} {q : Bool} {u : Value} (h : FE w0 W (some xb)) (hO : OwZ W B T u X.deps) (h1 : w0.heap.size ≤ B) (h2 : T ≤ W.heap.size) (h3 : ¬ (B ≤ xb ∧ xb < T)) :
    LfQ X q w0 (.pointer (some ⟨xb, 0, none⟩)) (.bool q) (((((((((W.setCell ⟨xb, 0, none⟩ (.int .i64 X.id.1)).setCell ⟨xb, 1, none⟩ (.int .i64 X.id.2)).setCell ⟨xb, 2, none⟩ (.int .i64 X.bal)).setCell ⟨xb, 3, none⟩ (.int .i64 X.st)).setCell ⟨xb, 4, none⟩ (.int .i64 X.k)).setCell ⟨xb, 5, none⟩ (.int .i64 X.key)).setCell ⟨xb, 6, none⟩ (.int .i64 X.v)).setCell ⟨xb, 7, none⟩ (.int .i64 X.seq)).setCell ⟨xb, 8, none⟩ u) := by
  obtain ⟨g1, g2⟩ := h.bx xb rfl
  exact ⟨xb, u, B, T, rfl, rfl, ⟨put9_at _ _ _ _ _ _ _ _ _ g2, hO.put9 h3 _ _ _ _ _ _ _ _ _, h3⟩, g1, h1, by simpa using h2, h.kp.trans (put9_below _ _ _ _ _ _ _ _ _ g1)⟩
end Go.Proofs.YtdikcenhakfheaaGreatDoor
