/- Slices of ids: read, owned. -/
import Derived.Test.YtbklkhndjckckaaSl
import Derived.Test.YtbklkhndjckckaaIdm
namespace Go.Proofs.Ytbklkhndjckckaa
open Go.RowKit
set_option linter.unusedVariables false

def idv (c : Pid) : List Value := [.int .i64 c.1, .int .i64 c.2]
/-- Ids as cells. -/
def flatP : List Pid → List Value
  | [] => []
  | c :: r => idv c ++ flatP r

theorem flatP_len : ∀ C : List Pid, (flatP C).length = C.length * 2
  | [] => rfl
  | c :: r => by simp [flatP, idv, flatP_len r]; omega
theorem flatP_app : ∀ (A B : List Pid), flatP (A ++ B) = flatP A ++ flatP B
  | [], B => rfl
  | c :: r, B => by simp [flatP, flatP_app r B]
theorem flatP_get : ∀ (C : List Pid) (i : Nat), i < C.length → (flatP C)[i * 2]? = some (.int .i64 (C.getD i nop).1) ∧ (flatP C)[i * 2 + 1]? = some (.int .i64 (C.getD i nop).2)
  | [], i, h => absurd h (by simp)
  | c :: r, 0, h => by simp [flatP, idv]
  | c :: r, i + 1, h => by
    have ih := flatP_get r i (by simpa using h)
    have e : (i + 1) * 2 = i * 2 + 2 := by omega
    have g : ∀ n, (flatP (c :: r))[n + 2]? = (flatP r)[n]? := fun n => by simp [flatP, idv]
    rw [e, g, show i * 2 + 2 + 1 = (i * 2 + 1) + 2 by omega, g]
    simpa using ih
theorem flatP_one (C : List Pid) : ∀ u ∈ flatP C, u.oneCell' = true := by
  induction C with
  | nil => intro u hu; simp [flatP] at hu
  | cons c r ih =>
    intro u hu
    rw [flatP, List.mem_append] at hu
    rcases hu with hu | hu
    · simp [idv] at hu; rcases hu with rfl | rfl <;> rfl
    · exact ih u hu

/-- A slice of ids, readable. -/
def Ids (w : World) (v : Value) (C : List Pid) : Prop :=
  ∃ a cap, v = .slice a C.length cap ∧ C.length ≤ cap ∧ C.length ≤ 2000000 ∧ (C.length = 0 ∨ ∃ b off, a = some ⟨b, off, none⟩ ∧ b < w.heap.size ∧ ∀ i, i < C.length →
    w.cell? ⟨b, off + i * 2, none⟩ = some (.int .i64 (C.getD i nop).1) ∧ w.cell? ⟨b, off + i * 2 + 1, none⟩ = some (.int .i64 (C.getD i nop).2))

/-- .. in a block of its own, from its head. -/
def OwnP (w : World) (b : Nat) (v : Value) (C : List Pid) : Prop :=
  ∃ cap cur t, v = .slice (some ⟨b, 0, none⟩) C.length cap ∧ w.heap[b]? = some (.cells cur t (0, 0)) ∧ C.length ≤ cap ∧ C.length ≤ 2000000 ∧ ∀ i, i < C.length →
    cur[i * 2]? = some (.int .i64 (C.getD i nop).1) ∧ cur[i * 2 + 1]? = some (.int .i64 (C.getD i nop).2)

theorem OwnP.lt {w : World} {b : Nat} {v : Value} {C : List Pid} (h : OwnP w b v C) : b < w.heap.size := by
  obtain ⟨cap, cur, t, rfl, hb, _⟩ := h
  exact lt_of_heap hb
theorem OwnP.same {w w' : World} {b : Nat} {v : Value} {C : List Pid} (h : OwnP w b v C) (hb : w'.heap[b]? = w.heap[b]?) : OwnP w' b v C := by
  obtain ⟨cap, cur, t, e, h1, h2, h3, h4⟩ := h
  exact ⟨cap, cur, t, e, hb.trans h1, h2, h3, h4⟩
theorem OwnP.up {w w' : World} {b B : Nat} {v : Value} {C : List Pid} (h : OwnP w b v C) (hb : Below B w w') (hB : b < B) : OwnP w' b v C := h.same (hb.block b hB)
theorem OwnP.read {w : World} {b : Nat} {v : Value} {C : List Pid} (h : OwnP w b v C) : Ids w v C := by
  obtain ⟨cap, cur, t, rfl, h1, h2, h3, h4⟩ := h
  refine ⟨_, cap, rfl, h2, h3, ?_⟩
  by_cases hz : C.length = 0
  · exact .inl hz
  · refine .inr ⟨b, 0, rfl, lt_of_heap h1, fun i hi => ?_⟩
    rw [Nat.zero_add, cell_of_cells h1, cell_of_cells h1]
    exact h4 i hi
theorem Ids.up {w w' : World} {B : Nat} {v : Value} {C : List Pid} (h : Ids w v C) (hb : Below B w w') (hB : w.heap.size ≤ B) : Ids w' v C := by
  obtain ⟨a, cap, rfl, h1, h2, h3⟩ := h
  refine ⟨a, cap, rfl, h1, h2, ?_⟩
  rcases h3 with h3 | ⟨b, off, rfl, h4, h5⟩
  · exact .inl h3
  · have hc : ∀ o, w'.cell? ⟨b, o, none⟩ = w.cell? ⟨b, o, none⟩ := fun o => hb.cell (p := ⟨b, o, none⟩) (Nat.lt_of_lt_of_le h4 hB)
    exact .inr ⟨b, off, rfl, Nat.lt_of_lt_of_le h4 hb.size, fun i hi => by rw [hc, hc]; exact h5 i hi⟩
theorem OwnP.of_row {w : World} {base : Nat} {e : TypeId} {v : Value} {C : List Pid} {n : Nat} (h : w.ownsRow base e 2 v n (flatP C)) (hn : n = C.length) (hl : C.length ≤ 2000000) (hv : v ≠ .slice none 0 0) : ∃ b, base ≤ b ∧ OwnP w b v C := by
  subst hn
  rcases h.2 with ⟨rfl, _⟩ | ⟨g, cap, cur, rfl, h1, h2, h3, h4, h5, h6⟩
  · exact absurd rfl hv
  · refine ⟨g, h1, cap, cur, e, rfl, h2, h3, hl, fun i hi => ?_⟩
    have hk : ∀ j, j < C.length * 2 → cur[j]? = (flatP C)[j]? := fun j hj => by
      rw [← h6, List.getElem?_take, if_pos hj]; simp
    rw [hk _ (by omega), hk _ (by omega)]
    exact flatP_get C i hi
theorem OwnP.shape {w : World} {b : Nat} {u : Value} {C : List Pid} (h : OwnP w b u C) : ∃ cap, u = .slice (some ⟨b, 0, none⟩) C.length cap ∧ C.length ≤ cap := by
  obtain ⟨cap, cur, t, e, h1, h2, _⟩ := h
  exact ⟨cap, e, h2⟩
theorem OwnP.cell {w : World} {b : Nat} {u : Value} {C : List Pid} (h : OwnP w b u C) (i : Nat) (hi : i < C.length) :
    w.cell? ⟨b, i * 2, none⟩ = some (.int .i64 (C.getD i nop).1) ∧ w.cell? ⟨b, i * 2 + 1, none⟩ = some (.int .i64 (C.getD i nop).2) := by
  obtain ⟨cap, cur, t, rfl, h1, h2, h3, h4⟩ := h
  rw [cell_of_cells h1, cell_of_cells h1]
  exact h4 i hi
theorem OwnP.free {w : World} {b : Nat} {u : Value} {C : List Pid} (h : OwnP w b u C) (m : Nat) : w.frozen? ⟨b, m, none⟩ = false := by
  obtain ⟨cap, cur, t, e, h1, _⟩ := h
  simp [World.frozen?, h1]

/-- An id stored at place k. -/
theorem OwnP.set {w : World} {b : Nat} {u : Value} {C : List Pid} (h : OwnP w b u C) (k : Nat) (hk : k < C.length) (c : Pid) :
    OwnP ((w.setCell ⟨b, k * 2, none⟩ (.int .i64 c.1)).setCell ⟨b, k * 2 + 1, none⟩ (.int .i64 c.2)) b u (C.set k c) := by
  obtain ⟨cap, cur, t, rfl, h1, h2, h3, h4⟩ := h
  have e1 := heap_setCell_same w b (k * 2) cur t (.int .i64 c.1) h1
  have e2 := heap_setCell_same _ b (k * 2 + 1) _ t (.int .i64 c.2) e1
  have hs : k * 2 + 1 < cur.size := by
    have := (h4 k hk).2
    rcases Nat.lt_or_ge (k * 2 + 1) cur.size with h | h
    · exact h
    · rw [Array.getElem?_eq_none h] at this; exact absurd this (by simp)
  refine ⟨cap, _, t, by simp, e2, by simpa using h2, by simpa using h3, fun i hi => ?_⟩
  rw [List.length_set] at hi
  by_cases e : i = k
  · subst e
    simp [hs, show i * 2 < cur.size by omega, List.getD_eq_getElem?_getD, List.getElem?_set_self hk]
  · have hg : (C.set k c).getD i nop = C.getD i nop := by
      rw [List.getD_eq_getElem?_getD, List.getElem?_set_ne (fun x => e x.symm), ← List.getD_eq_getElem?_getD]
    rw [hg]
    have := h4 i hi
    simp only [Array.getElem?_setIfInBounds]
    rw [if_neg (by omega), if_neg (by omega), if_neg (by omega), if_neg (by omega)]
    exact this
end Go.Proofs.Ytbklkhndjckckaa
