/- Texts laid together. -/
import Derived.Test.YtiolhjjkjmepcaaGreatDoorC01
/- Memory that turns only in some blocks. -/
namespace Go.Proofs.YtiolhjjkjmepcaaGreatDoor
open Go.RowKit
set_option linter.unusedVariables false

/-- All elder memory is as it was, but some blocks. -/
structure Exc (P : Nat → Prop) (w w' : World) : Prop where
  os : w'.os = w.os
  tape : w'.tape = w.tape
  output : w'.output = w.output
  size : w.heap.size ≤ w'.heap.size
  block : ∀ b, b < w.heap.size → ¬ P b → w'.heap[b]? = w.heap[b]?
theorem Exc.refl (P : Nat → Prop) (w : World) : Exc P w w := ⟨rfl, rfl, rfl, Nat.le_refl _, fun _ _ _ => rfl⟩
theorem Exc.of {P : Nat → Prop} {w w' : World} (h : Below w.heap.size w w') : Exc P w w' := ⟨h.os, h.tape, h.output, h.size, fun b hb _ => h.block b hb⟩
theorem Exc.trans {P Q : Nat → Prop} {w w1 w2 : World} (h : Exc P w w1) (g : Exc Q w1 w2) (hQ : ∀ b, b < w.heap.size → Q b → P b) : Exc P w w2 :=
  ⟨g.os.trans h.os, g.tape.trans h.tape, g.output.trans h.output, Nat.le_trans h.size g.size, fun b hb hn => (g.block b (Nat.lt_of_lt_of_le hb h.size) (fun hq => hn (hQ b hb hq))).trans (h.block b hb hn)⟩
theorem Exc.below {P : Nat → Prop} {w w1 w2 : World} (h : Exc P w w1) (g : Below w1.heap.size w1 w2) : Exc P w w2 := h.trans (Exc.of (P := P) g) (fun _ _ x => x)
theorem Exc.set {P : Nat → Prop} {w w1 : World} (h : Exc P w w1) {b : Nat} (hb : P b ∨ w.heap.size ≤ b) (o : Nat) (v : Value) : Exc P w (w1.setCell ⟨b, o, none⟩ v) := by
  refine ⟨h.os, h.tape, h.output, by rw [World.size_setCell]; exact h.size, fun c hc hn => ?_⟩
  rw [heap_setCell_other w1 ⟨b, o, none⟩ c v (fun e => by subst e; exact hb.elim hn (fun x => absurd hc (Nat.not_lt.2 x)))]
  exact h.block c hc hn
theorem Exc.drew {P : Nat → Prop} {w w1 : World} (h : Exc P w w1) : Exc P w w1.drew := ⟨h.os, h.tape, h.output, h.size, h.block⟩
theorem Exc.drewN {P : Nat → Prop} {w w1 : World} (h : Exc P w w1) (n : Nat) : Exc P w (w1.drewN n) := ⟨h.os, h.tape, h.output, h.size, h.block⟩
theorem Exc.alloc {P : Nat → Prop} {w w1 : World} (h : Exc P w w1) (o : Obj) : Exc P w (w1.alloc o) := h.below ((Below.refl _ _).alloc (Nat.le_refl _) o)
theorem Exc.to {P : Nat → Prop} {w w1 : World} (h : Exc P w w1) {B : Nat} (hB : B ≤ w.heap.size) (hP : ∀ b, P b → B ≤ b) : Below B w w1 :=
  ⟨h.os, h.tape, h.output, h.size, fun b hb => h.block b (Nat.lt_of_lt_of_le hb hB) (fun hp => absurd hb (Nat.not_lt.2 (hP b hp)))⟩
theorem Exc.at {P : Nat → Prop} {w w1 : World} (h : Exc P w w1) {b : Nat} {o : Obj} (hn : ¬ P b) (hb : w.heap[b]? = some o) : w1.heap[b]? = some o := (h.block b (lt_of_heap hb) hn).trans hb
end Go.Proofs.YtiolhjjkjmepcaaGreatDoor

/- A list of ids that a result has: no ids, or a block of its own. -/
namespace Go.Proofs.YtiolhjjkjmepcaaGreatDoor
open Go.RowKit
set_option linter.unusedVariables false

/-- No ids, or ids in a block of their own, from B on and ahead of T. -/
def OwZ (w : World) (B T : Nat) (u : Value) (C : List Pid) : Prop := (C = [] ∧ ∃ a c, u = .slice a 0 c) ∨ ∃ b, B ≤ b ∧ b < T ∧ OwnP w b u C
theorem OwZ.read {w : World} {B T : Nat} {u : Value} {C : List Pid} (h : OwZ w B T u C) : Ids w u C := by
  rcases h with ⟨rfl, a, c, rfl⟩ | ⟨b, _, _, h⟩
  · exact ⟨a, c, rfl, Nat.zero_le _, Nat.zero_le _, .inl rfl⟩
  · exact h.read
theorem OwZ.up {w w' : World} {B T : Nat} {u : Value} {C : List Pid} (h : OwZ w B T u C) (hb : Below w.heap.size w w') : OwZ w' B T u C := by
  rcases h with h | ⟨b, h1, h2, h⟩
  · exact .inl h
  · exact .inr ⟨b, h1, h2, h.up hb h.lt⟩
theorem OwZ.apart {w w' : World} {P : Nat → Prop} {B T : Nat} {u : Value} {C : List Pid} (h : OwZ w B T u C) (he : Exc P w w') (hn : ∀ b, B ≤ b → b < T → ¬ P b) : OwZ w' B T u C := by
  rcases h with h | ⟨b, h1, h2, h⟩
  · exact .inl h
  · exact .inr ⟨b, h1, h2, h.same (he.block b h.lt (hn b h1 h2))⟩
theorem OwZ.of {w : World} {B b : Nat} {u : Value} {C : List Pid} (h : OwnP w b u C) (hb : B ≤ b) : OwZ w B w.heap.size u C := .inr ⟨b, hb, h.lt, h⟩
theorem OwZ.wide {w : World} {B T B' T' : Nat} {u : Value} {C : List Pid} (h : OwZ w B T u C) (h1 : B' ≤ B) (h2 : T ≤ T') : OwZ w B' T' u C := by
  rcases h with h | ⟨b, g1, g2, h⟩
  · exact .inl h
  · exact .inr ⟨b, by omega, by omega, h⟩
end Go.Proofs.YtiolhjjkjmepcaaGreatDoor
