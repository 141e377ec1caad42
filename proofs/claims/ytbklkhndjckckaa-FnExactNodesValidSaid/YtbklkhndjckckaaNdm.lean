/- Slices of nodes: read. -/
import Derived.Test.YtbklkhndjckckaaIds
import Derived.Test.YtbklkhndjckckaaGrd
namespace Go.Proofs.Ytbklkhndjckckaa
open Go.RowKit
set_option linter.unusedVariables false

theorem four_cells {w : World} {b : Nat} {x y z u : Value} {t : TypeId} (h : w.heap[b]? = some (.cells #[x, y, z, u] t (0, 0))) :
    w.cell? ⟨b, 0, none⟩ = some x ∧ w.cell? ⟨b, 1, none⟩ = some y ∧ w.cell? ⟨b, 2, none⟩ = some z ∧ w.cell? ⟨b, 3, none⟩ = some u := by
  simp [World.cell?, h]

/-- A node as a value. -/
def ndv (x : Nd) (u : Value) : Value := .agg #[.int .i64 x.id.1, .int .i64 x.id.2, .int .i64 x.seq, u]
/-- A node in memory, from a cell on. -/
def NdIn (w : World) (b o : Nat) (x : Nd) : Prop := ∃ (ua : Option Addr) (un uc : Nat), w.cell? ⟨b, o, none⟩ = some (.int .i64 x.id.1) ∧ w.cell? ⟨b, o + 1, none⟩ = some (.int .i64 x.id.2) ∧ w.cell? ⟨b, o + 2, none⟩ = some (.int .i64 x.seq) ∧ w.cell? ⟨b, o + 3, none⟩ = some (.slice ua un uc) ∧ Ids w (.slice ua un uc) x.deps
theorem NdIn.up {w w' : World} {b o B : Nat} {x : Nd} (h : NdIn w b o x) (hb : Below B w w') (hB : w.heap.size ≤ B) (hl : b < w.heap.size) : NdIn w' b o x := by
  obtain ⟨ua, un, uc, h0, h1, h2, h3, h4⟩ := h
  have hc : ∀ o, w'.cell? ⟨b, o, none⟩ = w.cell? ⟨b, o, none⟩ := fun o => hb.cell (p := ⟨b, o, none⟩) (Nat.lt_of_lt_of_le hl hB)
  exact ⟨ua, un, uc, by rw [hc]; exact h0, by rw [hc]; exact h1, by rw [hc]; exact h2, by rw [hc]; exact h3, h4.up hb hB⟩
/-- A slice of nodes, readable. -/
def Nds (w : World) (v : Value) (N : List Nd) : Prop :=
  ∃ a cap, v = .slice a N.length cap ∧ N.length ≤ cap ∧ N.length ≤ 2000000 ∧ (N.length = 0 ∨ ∃ b off, a = some ⟨b, off, none⟩ ∧ b < w.heap.size ∧ ∀ i, i < N.length → NdIn w b (off + i * 4) (N.getD i nd0))
theorem Nds.up {w w' : World} {B : Nat} {v : Value} {N : List Nd} (h : Nds w v N) (hb : Below B w w') (hB : w.heap.size ≤ B) : Nds w' v N := by
  obtain ⟨a, cap, rfl, h1, h2, h3⟩ := h
  refine ⟨a, cap, rfl, h1, h2, ?_⟩
  rcases h3 with h3 | ⟨b, off, rfl, h4, h5⟩
  · exact .inl h3
  · exact .inr ⟨b, off, rfl, Nat.lt_of_lt_of_le h4 hb.size, fun i hi => (h5 i hi).up hb hB h4⟩
end Go.Proofs.Ytbklkhndjckckaa
