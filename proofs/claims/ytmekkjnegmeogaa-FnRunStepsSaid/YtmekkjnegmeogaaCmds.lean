/- Slices of commands: read, owned. -/
import Derived.Test.YtmekkjnegmeogaaMark
namespace Go.Proofs.Ytmekkjnegmeogaa
open Go.RowKit
set_option linter.unusedVariables false

/-- A command. -/
abbrev Cm : Type := Int × Int × Int
def nocm : Cm := (0, 0, 0)
def cmv (c : Cm) : List Value := [.int .i64 c.1, .int .i64 c.2.1, .int .i64 c.2.2]
/-- Commands as cells. -/
def flat : List Cm → List Value
  | [] => []
  | c :: r => cmv c ++ flat r

theorem flat_len : ∀ C : List Cm, (flat C).length = C.length * 3
  | [] => rfl
  | c :: r => by simp [flat, cmv, flat_len r]; omega
theorem flat_app : ∀ (A B : List Cm), flat (A ++ B) = flat A ++ flat B
  | [], B => rfl
  | c :: r, B => by simp [flat, flat_app r B]
theorem flat_get : ∀ (C : List Cm) (i : Nat), i < C.length → (flat C)[i * 3]? = some (.int .i64 (C.getD i nocm).1) ∧ (flat C)[i * 3 + 1]? = some (.int .i64 (C.getD i nocm).2.1) ∧ (flat C)[i * 3 + 2]? = some (.int .i64 (C.getD i nocm).2.2)
  | [], i, h => absurd h (by simp)
  | c :: r, 0, h => by simp [flat, cmv]
  | c :: r, i + 1, h => by
    have ih := flat_get r i (by simpa using h)
    have e : (i + 1) * 3 = i * 3 + 3 := by omega
    have g : ∀ n, (flat (c :: r))[n + 3]? = (flat r)[n]? := fun n => by simp [flat, cmv]
    rw [e, g, show i * 3 + 3 + 1 = (i * 3 + 1) + 3 by omega, g, show i * 3 + 3 + 2 = (i * 3 + 2) + 3 by omega, g]
    simpa using ih
theorem flat_one (C : List Cm) : ∀ u ∈ flat C, u.oneCell' = true := by
  induction C with
  | nil => intro u hu; simp [flat] at hu
  | cons c r ih =>
    intro u hu
    rw [flat, List.mem_append] at hu
    rcases hu with hu | hu
    · simp [cmv] at hu; rcases hu with rfl | rfl | rfl <;> rfl
    · exact ih u hu

/-- A slice of commands, readable. -/
def Cmds (w : World) (v : Value) (C : List Cm) : Prop :=
  ∃ a cap, v = .slice a C.length cap ∧ C.length ≤ cap ∧ C.length ≤ 2000000 ∧ (C.length = 0 ∨ ∃ b off, a = some ⟨b, off, none⟩ ∧ b < w.heap.size ∧ ∀ i, i < C.length →
    w.cell? ⟨b, off + i * 3, none⟩ = some (.int .i64 (C.getD i nocm).1) ∧ w.cell? ⟨b, off + i * 3 + 1, none⟩ = some (.int .i64 (C.getD i nocm).2.1) ∧ w.cell? ⟨b, off + i * 3 + 2, none⟩ = some (.int .i64 (C.getD i nocm).2.2))

/-- .. in a block of its own, from its head. -/
def OwnC (w : World) (b : Nat) (v : Value) (C : List Cm) : Prop :=
  ∃ cap cur t, v = .slice (some ⟨b, 0, none⟩) C.length cap ∧ w.heap[b]? = some (.cells cur t (0, 0)) ∧ C.length ≤ cap ∧ C.length ≤ 2000000 ∧ ∀ i, i < C.length →
    cur[i * 3]? = some (.int .i64 (C.getD i nocm).1) ∧ cur[i * 3 + 1]? = some (.int .i64 (C.getD i nocm).2.1) ∧ cur[i * 3 + 2]? = some (.int .i64 (C.getD i nocm).2.2)

theorem OwnC.lt {w : World} {b : Nat} {v : Value} {C : List Cm} (h : OwnC w b v C) : b < w.heap.size := by
  obtain ⟨cap, cur, t, rfl, hb, _⟩ := h
  exact lt_of_heap hb
theorem OwnC.same {w w' : World} {b : Nat} {v : Value} {C : List Cm} (h : OwnC w b v C) (hb : w'.heap[b]? = w.heap[b]?) : OwnC w' b v C := by
  obtain ⟨cap, cur, t, e, h1, h2, h3, h4⟩ := h
  exact ⟨cap, cur, t, e, hb.trans h1, h2, h3, h4⟩
theorem OwnC.up {w w' : World} {b B : Nat} {v : Value} {C : List Cm} (h : OwnC w b v C) (hb : Below B w w') (hB : b < B) : OwnC w' b v C := h.same (hb.block b hB)
theorem OwnC.read {w : World} {b : Nat} {v : Value} {C : List Cm} (h : OwnC w b v C) : Cmds w v C := by
  obtain ⟨cap, cur, t, rfl, h1, h2, h3, h4⟩ := h
  refine ⟨_, cap, rfl, h2, h3, ?_⟩
  by_cases hz : C.length = 0
  · exact .inl hz
  · refine .inr ⟨b, 0, rfl, lt_of_heap h1, fun i hi => ?_⟩
    rw [Nat.zero_add, cell_of_cells h1, cell_of_cells h1, cell_of_cells h1]
    exact h4 i hi
theorem Cmds.up {w w' : World} {B : Nat} {v : Value} {C : List Cm} (h : Cmds w v C) (hb : Below B w w') (hB : w.heap.size ≤ B) : Cmds w' v C := by
  obtain ⟨a, cap, rfl, h1, h2, h3⟩ := h
  refine ⟨a, cap, rfl, h1, h2, ?_⟩
  rcases h3 with h3 | ⟨b, off, rfl, h4, h5⟩
  · exact .inl h3
  · have hc : ∀ o, w'.cell? ⟨b, o, none⟩ = w.cell? ⟨b, o, none⟩ := fun o => hb.cell (p := ⟨b, o, none⟩) (Nat.lt_of_lt_of_le h4 hB)
    exact .inr ⟨b, off, rfl, Nat.lt_of_lt_of_le h4 hb.size, fun i hi => by rw [hc, hc, hc]; exact h5 i hi⟩
theorem OwnC.of_row {w : World} {base : Nat} {e : TypeId} {v : Value} {C : List Cm} {n : Nat} (h : w.ownsRow base e 3 v n (flat C)) (hn : n = C.length) (hl : C.length ≤ 2000000) (hv : v ≠ .slice none 0 0) : ∃ b, base ≤ b ∧ OwnC w b v C := by
  subst hn
  rcases h.2 with ⟨rfl, _⟩ | ⟨g, cap, cur, rfl, h1, h2, h3, h4, h5, h6⟩
  · exact absurd rfl hv
  · refine ⟨g, h1, cap, cur, e, rfl, h2, h3, hl, fun i hi => ?_⟩
    have hk : ∀ j, j < C.length * 3 → cur[j]? = (flat C)[j]? := fun j hj => by
      rw [← h6, List.getElem?_take, if_pos hj]; simp
    rw [hk _ (by omega), hk _ (by omega), hk _ (by omega)]
    exact flat_get C i hi
theorem OwnC.shape {w : World} {b : Nat} {u : Value} {C : List Cm} (h : OwnC w b u C) : ∃ cap, u = .slice (some ⟨b, 0, none⟩) C.length cap ∧ C.length ≤ cap := by
  obtain ⟨cap, cur, t, e, h1, h2, _⟩ := h
  exact ⟨cap, e, h2⟩
theorem OwnC.cell {w : World} {b : Nat} {u : Value} {C : List Cm} (h : OwnC w b u C) (i : Nat) (hi : i < C.length) :
    w.cell? ⟨b, i * 3, none⟩ = some (.int .i64 (C.getD i nocm).1) ∧ w.cell? ⟨b, i * 3 + 1, none⟩ = some (.int .i64 (C.getD i nocm).2.1) ∧ w.cell? ⟨b, i * 3 + 2, none⟩ = some (.int .i64 (C.getD i nocm).2.2) := by
  obtain ⟨cap, cur, t, rfl, h1, h2, h3, h4⟩ := h
  rw [cell_of_cells h1, cell_of_cells h1, cell_of_cells h1]
  exact h4 i hi
theorem OwnC.free {w : World} {b : Nat} {u : Value} {C : List Cm} (h : OwnC w b u C) (m : Nat) : w.frozen? ⟨b, m, none⟩ = false := by
  obtain ⟨cap, cur, t, e, h1, _⟩ := h
  simp [World.frozen?, h1]

/-- A command stored at place k. -/
theorem OwnC.set {w : World} {b : Nat} {u : Value} {C : List Cm} (h : OwnC w b u C) (k : Nat) (hk : k < C.length) (c : Cm) :
    OwnC (((w.setCell ⟨b, k * 3, none⟩ (.int .i64 c.1)).setCell ⟨b, k * 3 + 1, none⟩ (.int .i64 c.2.1)).setCell ⟨b, k * 3 + 2, none⟩ (.int .i64 c.2.2)) b u (C.set k c) := by
  obtain ⟨cap, cur, t, rfl, h1, h2, h3, h4⟩ := h
  have e1 := heap_setCell_same w b (k * 3) cur t (.int .i64 c.1) h1
  have e2 := heap_setCell_same _ b (k * 3 + 1) _ t (.int .i64 c.2.1) e1
  have e3 := heap_setCell_same _ b (k * 3 + 2) _ t (.int .i64 c.2.2) e2
  have hs : k * 3 + 2 < cur.size := by
    have := (h4 k hk).2.2
    rcases Nat.lt_or_ge (k * 3 + 2) cur.size with h | h
    · exact h
    · rw [Array.getElem?_eq_none h] at this; exact absurd this (by simp)
  refine ⟨cap, _, t, by simp, e3, by simpa using h2, by simpa using h3, fun i hi => ?_⟩
  rw [List.length_set] at hi
  by_cases e : i = k
  · subst e
    simp [hs, show i * 3 < cur.size by omega, show i * 3 + 1 < cur.size by omega, List.getD_eq_getElem?_getD, List.getElem?_set_self hk]
  · have hg : (C.set k c).getD i nocm = C.getD i nocm := by
      rw [List.getD_eq_getElem?_getD, List.getElem?_set_ne (fun x => e x.symm), ← List.getD_eq_getElem?_getD]
    rw [hg]
    have := h4 i hi
    simp only [Array.getElem?_setIfInBounds]
    rw [if_neg (by omega), if_neg (by omega), if_neg (by omega), if_neg (by omega), if_neg (by omega), if_neg (by omega), if_neg (by omega), if_neg (by omega), if_neg (by omega)]
    exact this
end Go.Proofs.Ytmekkjnegmeogaa
