/- Texts laid together. -/
import Derived.Test.YtiolhjjkjmepcaaGreatDoorProg
import Derived.WalkKit
import Derived.WalkSpells
import Derived.Lib.Hide
import Derived.Deep.DeepCutAuto
import Derived.OwnWalk
import Derived.Deep.QuietTactic
import Derived.BigQuiet
import Derived.Test.YtiolhjjkjmepcaaGreatDoorC02
import Derived.Deep.RegionWith
import Derived.Deep.RegionHeld3
import Derived.StillTailTactics
import Derived.Laws.Bits64b
import Derived.Laws.NewBlocks
import Derived.Maps.OwnSet
import Derived.DeepKeys4
/- Small facts of blocks; l6In. -/
namespace Go.Proofs.YtiolhjjkjmepcaaGreatDoor
open Go.RowKit
set_option linter.unusedVariables false

/-- Cells and marks of elder blocks, behind a call that only makes memory. -/
theorem bcell {W w1 : World} (hb : Below W.heap.size W w1) : (∀ b o, b < W.heap.size → w1.cell? ⟨b, o, none⟩ = W.cell? ⟨b, o, none⟩) ∧ (∀ b o, b < W.heap.size → w1.frozen? ⟨b, o, none⟩ = W.frozen? ⟨b, o, none⟩) :=
  ⟨fun b o h => hb.cell (p := ⟨b, o, none⟩) h, fun b o h => hb.frozen (p := ⟨b, o, none⟩) h⟩

/-- A block of three cells, known whole. -/
theorem blk3 {w : World} {b : Nat} {x y z : Value} {t : TypeId} (h : w.heap[b]? = some (.cells #[x, y, z] t (0, 0))) :
    w.cell? ⟨b, 0, none⟩ = some x ∧ w.cell? ⟨b, 1, none⟩ = some y ∧ w.cell? ⟨b, 2, none⟩ = some z ∧ w.frozen? ⟨b, 0, none⟩ = false ∧ w.frozen? ⟨b, 1, none⟩ = false ∧ w.frozen? ⟨b, 2, none⟩ = false := by
  simp [World.cell?, World.frozen?, h]

/-- .. behind a store. -/
theorem blk3_set {w : World} {b : Nat} {x y z : Value} {t : TypeId} (h : w.heap[b]? = some (.cells #[x, y, z] t (0, 0))) (u : Value) :
    (w.setCell ⟨b, 0, none⟩ u).heap[b]? = some (.cells #[u, y, z] t (0, 0)) ∧ (w.setCell ⟨b, 1, none⟩ u).heap[b]? = some (.cells #[x, u, z] t (0, 0)) ∧ (w.setCell ⟨b, 2, none⟩ u).heap[b]? = some (.cells #[x, y, u] t (0, 0)) := by
  simp [World.setCell, Array.getElem?_modify, h]

theorem heap_alloc_at (w : World) (o : Obj) (n : Nat) (h : n = w.heap.size) : (w.alloc o).heap[n]? = some o := by subst h; exact heap_alloc_new w o

def inB (n lo hi : Int) : Bool := decide (lo ≤ n ∧ n ≤ hi)

theorem inB_t {n lo hi : Int} (h1 : lo ≤ n) (h2 : n ≤ hi) : inB n lo hi = true := decide_eq_true ⟨h1, h2⟩

theorem inB_f1 {n lo hi : Int} (h1 : ¬ lo ≤ n) : inB n lo hi = false := decide_eq_false (fun h => h1 h.1)

theorem inB_f2 {n lo hi : Int} (h2 : ¬ n ≤ hi) : inB n lo hi = false := decide_eq_false (fun h => h2 h.2)

theorem in_any (n lo hi : Int) (w : World) :
    Calls Tryz.prog 66 #[.int .i64 n, .int .i64 lo, .int .i64 hi] w fun e w' => e = .returned (.bool (inB n lo hi)) ∧ w = w' := by
  by_cases h1 : lo ≤ n
  · by_cases h2 : n ≤ hi
    · rw [inB_t h1 h2]
      go_enter Tryz.func66, Tryz.ntmps66
      go_wp2
      go_ret
      exact ⟨rfl, rfl⟩
    · rw [inB_f2 h2]
      go_enter Tryz.func66, Tryz.ntmps66
      go_wp2
      go_ret
      exact ⟨rfl, rfl⟩
  · rw [inB_f1 h1]
    go_enter Tryz.func66, Tryz.ntmps66
    go_wp2
    go_ret
    exact ⟨rfl, rfl⟩

theorem ret_bool {a b : Bool} (h : a = b) : Ending.returned (.bool a) = .returned (.bool b) := by rw [h]
/-- A block of two cells, known whole. -/
theorem blk2 {w : World} {b : Nat} {x y : Value} {t : TypeId} (h : w.heap[b]? = some (.cells #[x, y] t (0, 0))) :
    w.cell? ⟨b, 0, none⟩ = some x ∧ w.cell? ⟨b, 1, none⟩ = some y ∧ w.frozen? ⟨b, 0, none⟩ = false ∧ w.frozen? ⟨b, 1, none⟩ = false := by
  simp [World.cell?, World.frozen?, h]
end Go.Proofs.YtiolhjjkjmepcaaGreatDoor

/- ballotFits of the program. -/
namespace Go.Proofs.YtiolhjjkjmepcaaGreatDoor
open Go.RowKit
set_option linter.unusedVariables false

set_option maxRecDepth 100000 in
theorem ibf_any (n : Int) (w : World) :
    Calls Tryz.prog 74 #[.int .i64 n] w fun e w' => e = .returned (.bool (decide (0 ≤ n ∧ n ≤ 999))) ∧ w = w' := by
  by_cases h1 : 0 ≤ n
  · by_cases h2 : n ≤ 999
    · rw [decide_eq_true ⟨h1, h2⟩]
      go_enter Tryz.func74, Tryz.ntmps74
      go_wp2_with fail
      go_ret
      exact ⟨rfl, rfl⟩
    · rw [decide_eq_false (fun h => h2 h.2)]
      go_enter Tryz.func74, Tryz.ntmps74
      go_wp2_with fail
      go_ret
      exact ⟨rfl, rfl⟩
  · rw [decide_eq_false (fun h => h1 h.1)]
    go_enter Tryz.func74, Tryz.ntmps74
    go_wp2_with fail
    go_ret
    exact ⟨rfl, rfl⟩

end Go.Proofs.YtiolhjjkjmepcaaGreatDoor

/- Small facts of slices and worlds. -/
namespace Go.Proofs.YtiolhjjkjmepcaaGreatDoor
open Go.RowKit
set_option linter.unusedVariables false

theorem lt_of_heap {w : World} {b : Nat} {o : Obj} (h : w.heap[b]? = some o) : b < w.heap.size := by
  have := Array.getElem?_eq_some_iff.1 h
  exact this.1

theorem cell_of_cells {w : World} {b i : Nat} {cur : Array Value} {t : TypeId} (h : w.heap[b]? = some (.cells cur t (0, 0))) : w.cell? ⟨b, i, none⟩ = cur[i]? := by
  simp [World.cell?, h]

theorem bstep {w w0 w1 : World} (D : Below w.heap.size w w0) (h : Below w0.heap.size w0 w1) : Below w.heap.size w w1 := D.trans (h.mono D.size)

theorem bblk {w0 w1 : World} {b : Nat} {o : Obj} (h : Below w0.heap.size w0 w1) (s : b + 1 ≤ w0.heap.size) (A : w0.heap[b]? = some o) : w1.heap[b]? = some o := (h.block b s).trans A

theorem bdrewN {B : Nat} {a w : World} (h : Below B a w) (n : Nat) : Below B a (w.drewN n) := ⟨h.os, h.tape, h.output, h.size, h.block⟩

theorem up_to {P : Nat → Prop} {k : Nat} (h : ∀ j, j < k → P j) (hk : P k) : ∀ j, j < k + 1 → P j := fun j hj => by
  rcases Nat.lt_or_ge j k with h' | h'
  · exact h j h'
  · obtain rfl : j = k := by omega
    exact hk
end Go.Proofs.YtiolhjjkjmepcaaGreatDoor

/- Slices of ids: read, owned. -/
namespace Go.Proofs.YtiolhjjkjmepcaaGreatDoor
open Go.RowKit
set_option linter.unusedVariables false

def idv (c : Pid) : List Value := [.int .i64 c.1, .int .i64 c.2]
/-- Ids as cells. -/
def flatP : List Pid → List Value
  | [] => []
  | c :: r => idv c ++ flatP r

theorem flatP_len : ∀ C : List Pid, (flatP C).length = C.length * 2
  | [] => rfl
  | c :: r => by simp [flatP, idv, flatP_len r]; omega
theorem flatP_app : ∀ (A B : List Pid), flatP (A ++ B) = flatP A ++ flatP B
  | [], B => rfl
  | c :: r, B => by simp [flatP, flatP_app r B]
theorem flatP_get : ∀ (C : List Pid) (i : Nat), i < C.length → (flatP C)[i * 2]? = some (.int .i64 (C.getD i nop).1) ∧ (flatP C)[i * 2 + 1]? = some (.int .i64 (C.getD i nop).2)
  | [], i, h => absurd h (by simp)
  | c :: r, 0, h => by simp [flatP, idv]
  | c :: r, i + 1, h => by
    have ih := flatP_get r i (by simpa using h)
    have e : (i + 1) * 2 = i * 2 + 2 := by omega
    have g : ∀ n, (flatP (c :: r))[n + 2]? = (flatP r)[n]? := fun n => by simp [flatP, idv]
    rw [e, g, show i * 2 + 2 + 1 = (i * 2 + 1) + 2 by omega, g]
    simpa using ih
theorem flatP_one (C : List Pid) : ∀ u ∈ flatP C, u.oneCell' = true := by
  induction C with
  | nil => intro u hu; simp [flatP] at hu
  | cons c r ih =>
    intro u hu
    rw [flatP, List.mem_append] at hu
    rcases hu with hu | hu
    · simp [idv] at hu; rcases hu with rfl | rfl <;> rfl
    · exact ih u hu

/-- A slice of ids, readable. -/
def Ids (w : World) (v : Value) (C : List Pid) : Prop :=
  ∃ a cap, v = .slice a C.length cap ∧ C.length ≤ cap ∧ C.length ≤ 2000000 ∧ (C.length = 0 ∨ ∃ b off, a = some ⟨b, off, none⟩ ∧ b < w.heap.size ∧ ∀ i, i < C.length →
    w.cell? ⟨b, off + i * 2, none⟩ = some (.int .i64 (C.getD i nop).1) ∧ w.cell? ⟨b, off + i * 2 + 1, none⟩ = some (.int .i64 (C.getD i nop).2))

/-- .. in a block of its own, from its head. -/
def OwnP (w : World) (b : Nat) (v : Value) (C : List Pid) : Prop :=
  ∃ cap cur t, v = .slice (some ⟨b, 0, none⟩) C.length cap ∧ w.heap[b]? = some (.cells cur t (0, 0)) ∧ C.length ≤ cap ∧ C.length ≤ 2000000 ∧ ∀ i, i < C.length →
    cur[i * 2]? = some (.int .i64 (C.getD i nop).1) ∧ cur[i * 2 + 1]? = some (.int .i64 (C.getD i nop).2)

theorem OwnP.lt {w : World} {b : Nat} {v : Value} {C : List Pid} (h : OwnP w b v C) : b < w.heap.size := by
  obtain ⟨cap, cur, t, rfl, hb, _⟩ := h
  exact lt_of_heap hb
theorem OwnP.same {w w' : World} {b : Nat} {v : Value} {C : List Pid} (h : OwnP w b v C) (hb : w'.heap[b]? = w.heap[b]?) : OwnP w' b v C := by
  obtain ⟨cap, cur, t, e, h1, h2, h3, h4⟩ := h
  exact ⟨cap, cur, t, e, hb.trans h1, h2, h3, h4⟩
theorem OwnP.up {w w' : World} {b B : Nat} {v : Value} {C : List Pid} (h : OwnP w b v C) (hb : Below B w w') (hB : b < B) : OwnP w' b v C := h.same (hb.block b hB)
theorem OwnP.read {w : World} {b : Nat} {v : Value} {C : List Pid} (h : OwnP w b v C) : Ids w v C := by
  obtain ⟨cap, cur, t, rfl, h1, h2, h3, h4⟩ := h
  refine ⟨_, cap, rfl, h2, h3, ?_⟩
  by_cases hz : C.length = 0
  · exact .inl hz
  · refine .inr ⟨b, 0, rfl, lt_of_heap h1, fun i hi => ?_⟩
    rw [Nat.zero_add, cell_of_cells h1, cell_of_cells h1]
    exact h4 i hi
theorem Ids.up {w w' : World} {B : Nat} {v : Value} {C : List Pid} (h : Ids w v C) (hb : Below B w w') (hB : w.heap.size ≤ B) : Ids w' v C := by
  obtain ⟨a, cap, rfl, h1, h2, h3⟩ := h
  refine ⟨a, cap, rfl, h1, h2, ?_⟩
  rcases h3 with h3 | ⟨b, off, rfl, h4, h5⟩
  · exact .inl h3
  · have hc : ∀ o, w'.cell? ⟨b, o, none⟩ = w.cell? ⟨b, o, none⟩ := fun o => hb.cell (p := ⟨b, o, none⟩) (Nat.lt_of_lt_of_le h4 hB)
    exact .inr ⟨b, off, rfl, Nat.lt_of_lt_of_le h4 hb.size, fun i hi => by rw [hc, hc]; exact h5 i hi⟩
theorem OwnP.of_row {w : World} {base : Nat} {e : TypeId} {v : Value} {C : List Pid} {n : Nat} (h : w.ownsRow base e 2 v n (flatP C)) (hn : n = C.length) (hl : C.length ≤ 2000000) (hv : v ≠ .slice none 0 0) : ∃ b, base ≤ b ∧ OwnP w b v C := by
  subst hn
  rcases h.2 with ⟨rfl, _⟩ | ⟨g, cap, cur, rfl, h1, h2, h3, h4, h5, h6⟩
  · exact absurd rfl hv
  · refine ⟨g, h1, cap, cur, e, rfl, h2, h3, hl, fun i hi => ?_⟩
    have hk : ∀ j, j < C.length * 2 → cur[j]? = (flatP C)[j]? := fun j hj => by
      rw [← h6, List.getElem?_take, if_pos hj]; simp
    rw [hk _ (by omega), hk _ (by omega)]
    exact flatP_get C i hi
theorem OwnP.shape {w : World} {b : Nat} {u : Value} {C : List Pid} (h : OwnP w b u C) : ∃ cap, u = .slice (some ⟨b, 0, none⟩) C.length cap ∧ C.length ≤ cap := by
  obtain ⟨cap, cur, t, e, h1, h2, _⟩ := h
  exact ⟨cap, e, h2⟩
theorem OwnP.cell {w : World} {b : Nat} {u : Value} {C : List Pid} (h : OwnP w b u C) (i : Nat) (hi : i < C.length) :
    w.cell? ⟨b, i * 2, none⟩ = some (.int .i64 (C.getD i nop).1) ∧ w.cell? ⟨b, i * 2 + 1, none⟩ = some (.int .i64 (C.getD i nop).2) := by
  obtain ⟨cap, cur, t, rfl, h1, h2, h3, h4⟩ := h
  rw [cell_of_cells h1, cell_of_cells h1]
  exact h4 i hi
theorem OwnP.free {w : World} {b : Nat} {u : Value} {C : List Pid} (h : OwnP w b u C) (m : Nat) : w.frozen? ⟨b, m, none⟩ = false := by
  obtain ⟨cap, cur, t, e, h1, _⟩ := h
  simp [World.frozen?, h1]

/-- An id stored at place k. -/
theorem OwnP.set {w : World} {b : Nat} {u : Value} {C : List Pid} (h : OwnP w b u C) (k : Nat) (hk : k < C.length) (c : Pid) :
    OwnP ((w.setCell ⟨b, k * 2, none⟩ (.int .i64 c.1)).setCell ⟨b, k * 2 + 1, none⟩ (.int .i64 c.2)) b u (C.set k c) := by
  obtain ⟨cap, cur, t, rfl, h1, h2, h3, h4⟩ := h
  have e1 := heap_setCell_same w b (k * 2) cur t (.int .i64 c.1) h1
  have e2 := heap_setCell_same _ b (k * 2 + 1) _ t (.int .i64 c.2) e1
  have hs : k * 2 + 1 < cur.size := by
    have := (h4 k hk).2
    rcases Nat.lt_or_ge (k * 2 + 1) cur.size with h | h
    · exact h
    · rw [Array.getElem?_eq_none h] at this; exact absurd this (by simp)
  refine ⟨cap, _, t, by simp, e2, by simpa using h2, by simpa using h3, fun i hi => ?_⟩
  rw [List.length_set] at hi
  by_cases e : i = k
  · subst e
    simp [hs, show i * 2 < cur.size by omega, List.getD_eq_getElem?_getD, List.getElem?_set_self hk]
  · have hg : (C.set k c).getD i nop = C.getD i nop := by
      rw [List.getD_eq_getElem?_getD, List.getElem?_set_ne (fun x => e x.symm), ← List.getD_eq_getElem?_getD]
    rw [hg]
    have := h4 i hi
    simp only [Array.getElem?_setIfInBounds]
    rw [if_neg (by omega), if_neg (by omega), if_neg (by omega), if_neg (by omega)]
    exact this
end Go.Proofs.YtiolhjjkjmepcaaGreatDoor

/- Slices of nodes: read. -/
namespace Go.Proofs.YtiolhjjkjmepcaaGreatDoor
open Go.RowKit
set_option linter.unusedVariables false

theorem four_cells {w : World} {b : Nat} {x y z u : Value} {t : TypeId} (h : w.heap[b]? = some (.cells #[x, y, z, u] t (0, 0))) :
    w.cell? ⟨b, 0, none⟩ = some x ∧ w.cell? ⟨b, 1, none⟩ = some y ∧ w.cell? ⟨b, 2, none⟩ = some z ∧ w.cell? ⟨b, 3, none⟩ = some u := by
  simp [World.cell?, h]

/-- A node as a value. -/
def ndv (x : Nd) (u : Value) : Value := .agg #[.int .i64 x.id.1, .int .i64 x.id.2, .int .i64 x.seq, u]
/-- A node in memory, from a cell on. -/
def NdIn (w : World) (b o : Nat) (x : Nd) : Prop := ∃ (ua : Option Addr) (un uc : Nat), w.cell? ⟨b, o, none⟩ = some (.int .i64 x.id.1) ∧ w.cell? ⟨b, o + 1, none⟩ = some (.int .i64 x.id.2) ∧ w.cell? ⟨b, o + 2, none⟩ = some (.int .i64 x.seq) ∧ w.cell? ⟨b, o + 3, none⟩ = some (.slice ua un uc) ∧ Ids w (.slice ua un uc) x.deps
theorem NdIn.up {w w' : World} {b o B : Nat} {x : Nd} (h : NdIn w b o x) (hb : Below B w w') (hB : w.heap.size ≤ B) (hl : b < w.heap.size) : NdIn w' b o x := by
  obtain ⟨ua, un, uc, h0, h1, h2, h3, h4⟩ := h
  have hc : ∀ o, w'.cell? ⟨b, o, none⟩ = w.cell? ⟨b, o, none⟩ := fun o => hb.cell (p := ⟨b, o, none⟩) (Nat.lt_of_lt_of_le hl hB)
  exact ⟨ua, un, uc, by rw [hc]; exact h0, by rw [hc]; exact h1, by rw [hc]; exact h2, by rw [hc]; exact h3, h4.up hb hB⟩
/-- A slice of nodes, readable. -/
def Nds (w : World) (v : Value) (N : List Nd) : Prop :=
  ∃ a cap, v = .slice a N.length cap ∧ N.length ≤ cap ∧ N.length ≤ 2000000 ∧ (N.length = 0 ∨ ∃ b off, a = some ⟨b, off, none⟩ ∧ b < w.heap.size ∧ ∀ i, i < N.length → NdIn w b (off + i * 4) (N.getD i nd0))
theorem Nds.up {w w' : World} {B : Nat} {v : Value} {N : List Nd} (h : Nds w v N) (hb : Below B w w') (hB : w.heap.size ≤ B) : Nds w' v N := by
  obtain ⟨a, cap, rfl, h1, h2, h3⟩ := h
  refine ⟨a, cap, rfl, h1, h2, ?_⟩
  rcases h3 with h3 | ⟨b, off, rfl, h4, h5⟩
  · exact .inl h3
  · exact .inr ⟨b, off, rfl, Nat.lt_of_lt_of_le h4 hb.size, fun i hi => (h5 i hi).up hb hB h4⟩
end Go.Proofs.YtiolhjjkjmepcaaGreatDoor

/- Contracts of the functions on commands: l6In, CommandValid of the model and of the program. -/
namespace Go.Proofs.YtiolhjjkjmepcaaGreatDoor
open Go.RowKit
set_option linter.unusedVariables false

/-- What a valid command is. -/
def cvB (k key v : Int) : Bool :=
  decide ((k = 0 ∧ 0 ≤ key ∧ key ≤ 5 ∧ v = 0) ∨ (k = 1 ∧ 0 ≤ key ∧ key ≤ 5 ∧ 0 ≤ v ∧ v ≤ 99) ∨ (k = 2 ∧ 0 ≤ key ∧ key ≤ 5 ∧ 0 ≤ v ∧ v ≤ 99) ∨ (k = 3 ∧ key = 0 ∧ v = 0))

theorem sv1 {k key v : Int} (h : ¬inB k 0 3 = true) : false = cvB k key v := by rw [Bool.eq_iff_iff]; simp [cvB, inB] at *; omega
theorem sv2 {k key v : Int} (h : ¬inB key 0 5 = true) : false = cvB k key v := by rw [Bool.eq_iff_iff]; simp [cvB, inB] at *; omega
theorem sv3 {k key v : Int} (h : (!inB v 0 99) = true) : false = cvB k key v := by rw [Bool.eq_iff_iff]; simp [cvB, inB] at *; omega
theorem sv4 {k key v : Int} (h1 : inB key 0 5 = true) (h2 : (!inB v 0 99) = false) (h : (k == 0) = true) : (v == 0) = cvB k key v := by rw [Bool.eq_iff_iff]; simp [cvB, inB] at *; omega
theorem sv5 {k v : Int} (h : (k == 3) = true) : (v == 0) = cvB k 0 v := by rw [Bool.eq_iff_iff]; simp [cvB] at *; omega
theorem sv5' {k key v : Int} (h : (k == 3) = true) (h0 : key = 0) : (v == 0) = cvB k key v := by rw [Bool.eq_iff_iff]; simp [cvB] at *; omega
theorem sv6 {k key v : Int} (h : (k == 3) = true) (h0 : ¬key = 0) : false = cvB k key v := by rw [Bool.eq_iff_iff]; simp [cvB] at *; omega
theorem sv7 {k key v : Int} (h1 : inB k 0 3 = true) (h2 : inB key 0 5 = true) (h3 : (!inB v 0 99) = false) (h4 : (k == 0) = false) (h5 : (k == 3) = false) : true = cvB k key v := by rw [Bool.eq_iff_iff]; simp [cvB, inB] at *; omega

theorem svalid_any (k key v : Int) (w : World) :
    Calls Tryz.prog 67 #[.agg #[.int .i64 k, .int .i64 key, .int .i64 v]] w fun e w' => e = .returned (.bool (cvB k key v)) ∧ Below w.heap.size w w' := by
  go_enter Tryz.func67, Tryz.ntmps67
  go_wp2_with (go_at_call 66; refine (in_any _ _ _ _).mono ?_; rintro e w' ⟨rfl, rfl⟩)
  all_goals
    go_ret
    refine ⟨ret_bool ?_, (Below.refl _ _).alloc (Nat.le_refl _) _⟩
    first | exact sv1 ‹_› | exact sv2 ‹_› | exact sv3 ‹_› | exact sv4 ‹_› ‹_› ‹_› | exact sv5 ‹_› | exact sv5' ‹_› ‹_› | exact sv6 ‹_› ‹_› | exact sv7 ‹_› ‹_› ‹_› ‹_› ‹_›

/-- What a command does, as the program has it. -/
def actV (k key v : Int) : Value :=
  if cvB k key v then
    (if k = 0 then .iface 141 (.agg #[.int .i64 key]) else if k = 1 then .iface 143 (.agg #[.int .i64 key, .int .i64 v]) else if k = 2 then .iface 144 (.agg #[.int .i64 key, .int .i64 v]) else .iface 146 (.agg #[]))
  else .nilIface


set_option maxRecDepth 100000 in
set_option maxHeartbeats 2000000 in
theorem act_yes (k key v : Int) (w : World) (h : cvB k key v = true) :
    Calls Tryz.prog 91 #[.agg #[.int .i64 k, .int .i64 key, .int .i64 v]] w fun e w' => e = .returned (.tuple #[actV k key v, .bool (cvB k key v)]) ∧ Below w.heap.size w w' := by
  unfold actV
  rw [if_pos h, h]
  unfold cvB at h
  rcases of_decide_eq_true h with ⟨rfl, h1, h2, rfl⟩ | ⟨rfl, h1, h2, h3, h4⟩ | ⟨rfl, h1, h2, h3, h4⟩ | ⟨rfl, rfl, rfl⟩
  all_goals
    clear h
    go_enter Tryz.func91, Tryz.ntmps91
    go_wp2_with fail
    go_ret2
    exact ⟨rfl, (Below.refl _ _).alloc (Nat.le_refl _) _⟩

theorem actV_no {k key v : Int} (h : cvB k key v = false) : actV k key v = .nilIface := by unfold actV; rw [h]; rfl
/-- The walk of what is invalid, under a decided kind. -/
theorem cv_no {k key v : Int} (h : cvB k key v = false) : (¬ (0 ≤ k ∧ k ≤ 3)) ∨ (k = 0 ∧ ¬(0 ≤ key ∧ key ≤ 5)) ∨ (k = 0 ∧ (0 ≤ key ∧ key ≤ 5) ∧ ¬ v = 0) ∨ ((k = 1 ∨ k = 2) ∧ ¬(0 ≤ key ∧ key ≤ 5)) ∨ ((k = 1 ∨ k = 2) ∧ (0 ≤ key ∧ key ≤ 5) ∧ ¬(0 ≤ v ∧ v ≤ 99)) ∨ (k = 3 ∧ ¬ key = 0) ∨ (k = 3 ∧ key = 0 ∧ ¬ v = 0) := by
  simp [cvB] at h; omega
set_option maxRecDepth 100000 in
set_option maxHeartbeats 4000000 in
theorem act_no (k key v : Int) (w : World) (h : cvB k key v = false) :
    Calls Tryz.prog 91 #[.agg #[.int .i64 k, .int .i64 key, .int .i64 v]] w fun e w' => e = .returned (.tuple #[actV k key v, .bool (cvB k key v)]) ∧ Below w.heap.size w w' := by
  rw [actV_no h, h]
  rcases cv_no h with a | ⟨rfl, a⟩ | ⟨rfl, ⟨a, b⟩, c⟩ | ⟨rfl | rfl, a⟩ | ⟨rfl | rfl, ⟨a, b⟩, c⟩ | ⟨rfl, a⟩ | ⟨rfl, rfl, a⟩
  all_goals
    clear h
    go_enter Tryz.func91, Tryz.ntmps91
    go_wp2_with fail
  all_goals (try go_ret2)
  all_goals exact ⟨rfl, (Below.refl _ _).alloc (Nat.le_refl _) _⟩
end Go.Proofs.YtiolhjjkjmepcaaGreatDoor

/- Entries and logs: plain facts, and how they lie in memory. -/
namespace Go.Proofs.YtiolhjjkjmepcaaGreatDoor
open Go.RowKit
set_option linter.unusedVariables false

/-- An entry. -/
structure En where
  id : Pid
  bal : Int
  st : Int
  k : Int
  key : Int
  v : Int
  seq : Int
  deps : List Pid
def en0 : En := ⟨nop, 0, 0, 0, 0, 0, 0, []⟩
def En.nd (e : En) : Nd := ⟨e.id, e.seq, e.deps⟩
def idsE (E : List En) : List Pid := E.map En.id
/-- What a valid entry is. -/
def enB (e : En) : Bool := ndB e.nd && (decide (0 ≤ e.bal ∧ e.bal ≤ 999) && (decide (1 ≤ e.st ∧ e.st ≤ 3) && cvB e.k e.key e.v))
/-- What a valid log is. -/
def logB (E : List En) : Bool := decide (E.length ≤ 12) && (E.all enB && ascB (idsE E))
theorem log_of {E : List En} (h : logB E = true) : E.length ≤ 12 ∧ (∀ x ∈ E, enB x = true) ∧ Asc (idsE E) := by
  simp only [logB, Bool.and_eq_true, decide_eq_true_eq] at h
  exact ⟨h.1, List.all_eq_true.1 h.2.1, ascB_asc h.2.2⟩
theorem log_to {E : List En} (h1 : E.length ≤ 12) (h2 : ∀ x ∈ E, enB x = true) (h3 : Asc (idsE E)) : logB E = true := by
  simp only [logB, Bool.and_eq_true, decide_eq_true_eq]
  exact ⟨h1, List.all_eq_true.2 h2, asc_ascB h3⟩
theorem log_no {E : List En} (h : ¬ (E.length ≤ 12 ∧ (∀ x ∈ E, enB x = true) ∧ Asc (idsE E))) : logB E = false := by
  cases e : logB E with
  | false => rfl
  | true => exact absurd (log_of e) h
theorem enD_mem {E : List En} {k : Nat} (hk : k < E.length) : E.getD k en0 ∈ E := by
  rw [List.getD_eq_getElem?_getD, List.getElem?_eq_getElem hk]; exact List.getElem_mem hk
theorem mem_enD {E : List En} {x : En} (h : x ∈ E) : ∃ k, k < E.length ∧ E.getD k en0 = x := by
  obtain ⟨k, hk, e⟩ := List.getElem_of_mem h
  exact ⟨k, hk, by rw [List.getD_eq_getElem?_getD, List.getElem?_eq_getElem hk]; exact e⟩
theorem idsE_len (E : List En) : (idsE E).length = E.length := List.length_map _
theorem idsE_get {E : List En} {k : Nat} (hk : k < E.length) : (idsE E).getD k nop = (E.getD k en0).id := by
  unfold idsE
  rw [List.getD_eq_getElem?_getD, List.getD_eq_getElem?_getD, List.getElem?_map, List.getElem?_eq_getElem hk]; rfl
theorem mem_idsE {E : List En} {a : Pid} : a ∈ idsE E ↔ ∃ k, k < E.length ∧ (E.getD k en0).id = a := by
  unfold idsE
  rw [List.mem_map]
  constructor
  · rintro ⟨x, hx, rfl⟩
    obtain ⟨k, hk, rfl⟩ := mem_enD hx
    exact ⟨k, hk, rfl⟩
  · rintro ⟨k, hk, rfl⟩; exact ⟨_, enD_mem hk, rfl⟩
theorem log_bad {E : List En} {k : Nat} (hk : k < E.length) (h : enB (E.getD k en0) = false) : logB E = false := log_no fun x => by
  have := x.2.1 _ (enD_mem hk); rw [h] at this; cases this
theorem log_turn {E : List En} {k : Nat} (hk : k + 1 < E.length) (h : ltP (E.getD k en0).id (E.getD (k + 1) en0).id = false) : logB E = false := log_no fun x => by
  have := asc_lt x.2.2 (Nat.lt_succ_self k) (by rw [idsE_len]; exact hk)
  rw [idsE_get hk, idsE_get (by omega), h] at this; cases this
theorem log_long {E : List En} (h : ¬ E.length ≤ 12) : logB E = false := log_no fun x => h x.1
theorem log_good {E : List En} (h1 : E.length ≤ 12) (h2 : ∀ k, k < E.length → enB (E.getD k en0) = true) (h3 : ∀ k, k + 1 < E.length → ltP (E.getD k en0).id (E.getD (k + 1) en0).id = true) : logB E = true := by
  refine log_to h1 (fun x hx => ?_) (asc_adj fun i hi => ?_)
  · obtain ⟨k, hk, rfl⟩ := mem_enD hx
    exact h2 k hk
  · rw [idsE_len] at hi
    rw [idsE_get hi, idsE_get (by omega)]; exact h3 i hi
theorem log_inj {E : List En} (h : logB E = true) {i j : Nat} (hi : i < E.length) (hj : j < E.length) (e : (E.getD i en0).id = (E.getD j en0).id) : i = j := by
  have ha := (log_of h).2.2
  rcases Nat.lt_trichotomy i j with hl | hl | hl
  · have := asc_lt ha hl (by rw [idsE_len]; exact hj)
    rw [idsE_get hi, idsE_get hj, e, ltP_irr] at this; cases this
  · exact hl
  · have := asc_lt ha hl (by rw [idsE_len]; exact hi)
    rw [idsE_get hi, idsE_get hj, e, ltP_irr] at this; cases this

theorem nine_cells {w : World} {b : Nat} {x0 x1 x2 x3 x4 x5 x6 x7 x8 : Value} {t : TypeId} (h : w.heap[b]? = some (.cells #[x0, x1, x2, x3, x4, x5, x6, x7, x8] t (0, 0))) :
    w.cell? ⟨b, 0, none⟩ = some x0 ∧ w.cell? ⟨b, 1, none⟩ = some x1 ∧ w.cell? ⟨b, 2, none⟩ = some x2 ∧ w.cell? ⟨b, 3, none⟩ = some x3 ∧ w.cell? ⟨b, 4, none⟩ = some x4 ∧ w.cell? ⟨b, 5, none⟩ = some x5 ∧ w.cell? ⟨b, 6, none⟩ = some x6 ∧ w.cell? ⟨b, 7, none⟩ = some x7 ∧ w.cell? ⟨b, 8, none⟩ = some x8 := by
  simp [World.cell?, h]
theorem nine_free {w : World} {b : Nat} {cur : Array Value} {t : TypeId} (h : w.heap[b]? = some (.cells cur t (0, 0))) (m : Nat) : w.frozen? ⟨b, m, none⟩ = false := by
  simp [World.frozen?, h]

/-- An entry as a value. -/
def env (e : En) (u : Value) : Value := .agg #[.int .i64 e.id.1, .int .i64 e.id.2, .int .i64 e.bal, .int .i64 e.st, .int .i64 e.k, .int .i64 e.key, .int .i64 e.v, .int .i64 e.seq, u]
/-- Its cells. -/
def enc9 (e : En) (u : Value) : List Value := [.int .i64 e.id.1, .int .i64 e.id.2, .int .i64 e.bal, .int .i64 e.st, .int .i64 e.k, .int .i64 e.key, .int .i64 e.v, .int .i64 e.seq, u]
/-- An entry in memory, from a cell on. -/
structure EnAt (w : World) (b o : Nat) (e : En) (u : Value) : Prop where
  c0 : w.cell? ⟨b, o, none⟩ = some (.int .i64 e.id.1)
  c1 : w.cell? ⟨b, o + 1, none⟩ = some (.int .i64 e.id.2)
  c2 : w.cell? ⟨b, o + 2, none⟩ = some (.int .i64 e.bal)
  c3 : w.cell? ⟨b, o + 3, none⟩ = some (.int .i64 e.st)
  c4 : w.cell? ⟨b, o + 4, none⟩ = some (.int .i64 e.k)
  c5 : w.cell? ⟨b, o + 5, none⟩ = some (.int .i64 e.key)
  c6 : w.cell? ⟨b, o + 6, none⟩ = some (.int .i64 e.v)
  c7 : w.cell? ⟨b, o + 7, none⟩ = some (.int .i64 e.seq)
  c8 : w.cell? ⟨b, o + 8, none⟩ = some u
  ids : Ids w u e.deps
theorem EnAt.up {w w' : World} {b o B : Nat} {e : En} {u : Value} (h : EnAt w b o e u) (hb : Below B w w') (hB : w.heap.size ≤ B) (hl : b < w.heap.size) : EnAt w' b o e u := by
  have hc : ∀ o, w'.cell? ⟨b, o, none⟩ = w.cell? ⟨b, o, none⟩ := fun o => hb.cell (p := ⟨b, o, none⟩) (Nat.lt_of_lt_of_le hl hB)
  exact ⟨by rw [hc]; exact h.c0, by rw [hc]; exact h.c1, by rw [hc]; exact h.c2, by rw [hc]; exact h.c3, by rw [hc]; exact h.c4, by rw [hc]; exact h.c5, by rw [hc]; exact h.c6, by rw [hc]; exact h.c7, by rw [hc]; exact h.c8, h.ids.up hb hB⟩
/-- A slice of entries, readable; U: where their lists lie. -/
structure EnsAt (w : World) (g off : Nat) (E : List En) (U : Nat → Value) : Prop where
  lt : g < w.heap.size
  at_ : ∀ i, i < E.length → EnAt w g (off + i * 9) (E.getD i en0) (U i)
theorem EnsAt.up {w w' : World} {g off B : Nat} {E : List En} {U : Nat → Value} (h : EnsAt w g off E U) (hb : Below B w w') (hB : w.heap.size ≤ B) : EnsAt w' g off E U :=
  ⟨Nat.lt_of_lt_of_le h.lt hb.size, fun i hi => (h.at_ i hi).up hb hB h.lt⟩
def Ens (w : World) (v : Value) (E : List En) : Prop :=
  ∃ a cap, v = .slice a E.length cap ∧ E.length ≤ cap ∧ E.length ≤ 2000000 ∧ (E.length = 0 ∨ ∃ b off U, a = some ⟨b, off, none⟩ ∧ EnsAt w b off E U)
theorem Ens.up {w w' : World} {B : Nat} {v : Value} {E : List En} (h : Ens w v E) (hb : Below B w w') (hB : w.heap.size ≤ B) : Ens w' v E := by
  obtain ⟨a, cap, rfl, h1, h2, h3⟩ := h
  refine ⟨a, cap, rfl, h1, h2, ?_⟩
  rcases h3 with h3 | ⟨b, off, U, rfl, h4⟩
  · exact .inl h3
  · exact .inr ⟨b, off, U, rfl, h4.up hb hB⟩
end Go.Proofs.YtiolhjjkjmepcaaGreatDoor

/- The model's l3Has. -/
namespace Go.Proofs.YtiolhjjkjmepcaaGreatDoor
open Go.RowKit
set_option linter.unusedVariables false

theorem has_t {L : List Pid} {k : Nat} {a : Pid} (hk : k < L.length) (h : L.getD k nop = a) : hasP L a = true := by
  unfold hasP
  rw [decide_eq_true_iff, ← h, List.getD_eq_getElem?_getD, List.getElem?_eq_getElem hk]
  exact List.getElem_mem _
theorem has_f {L : List Pid} {a : Pid} (h : ∀ j, j < L.length → ¬ L.getD j nop = a) : hasP L a = false := by
  unfold hasP
  rw [decide_eq_false_iff_not]
  intro hm
  obtain ⟨i, hi, e⟩ := List.getElem_of_mem hm
  refine h i hi ?_
  rw [List.getD_eq_getElem?_getD, List.getElem?_eq_getElem hi]
  exact e
theorem pid_eq {c : Pid} {x y : Int} : c = (x, y) ↔ c.1 = x ∧ c.2 = y := by
  obtain ⟨p, q⟩ := c
  simp

set_option maxRecDepth 100000 in
set_option maxHeartbeats 2000000 in
theorem shas_at (b off ca : Nat) (L : List Pid) (x y : Int) (w : World) (hb : b < w.heap.size) (hm : L.length ≤ 2000000) (h : ∀ i, i < L.length → w.cell? ⟨b, off + i * 2, none⟩ = some (.int .i64 (L.getD i nop).1) ∧ w.cell? ⟨b, off + i * 2 + 1, none⟩ = some (.int .i64 (L.getD i nop).2)) :
    Calls Tryz.prog 69 #[.slice (some ⟨b, off, none⟩) L.length ca, .agg #[.int .i64 x, .int .i64 y]] w fun e w' => e = .returned (.bool (hasP L (x, y))) ∧ Below w.heap.size w w' := by
  have h := Lib.hid h
  obtain ⟨n, hn⟩ : ∃ n, Hid (L.length = n) := ⟨_, Lib.hid rfl⟩
  obtain ⟨q, hq⟩ : ∃ q, Hid (hasP L (x, y) = q) := ⟨_, Lib.hid rfl⟩
  rw [hn.out] at hm ⊢
  rw [hq.out]
  go_enter Tryz.func69, Tryz.ntmps69
  go_wp2_with fail
  go_loopw [5] (fun i wr => ∃ k : Nat, k ≤ n ∧ i = .int .i64 k ∧ Hid (∀ j, j < k → ¬ L.getD j nop = (x, y)) ∧ wr.cell? ⟨w.heap.size, 0, none⟩ = some (.int .i64 x) ∧ wr.cell? ⟨w.heap.size, 1, none⟩ = some (.int .i64 y) ∧ Below w.heap.size w wr) (fun i _ => n - (intOf i).toNat)
  case atStart => exact ⟨0, Nat.zero_le _, rfl, Lib.hid (fun j hj => absurd hj (Nat.not_lt_zero _)), by go_simp, by go_simp, (Below.refl _ _).alloc (Nat.le_refl _) _⟩
  case round =>
    obtain ⟨k, hk, rfl, hno, x0, x1, hnx⟩ := hrel
    by_cases hlt : k < n
    · obtain ⟨h0, h1⟩ := h.out k (by rw [hn.out]; exact hlt)
      have q0 := (hnx.cell (p := ⟨b, off + k * 2, none⟩) hb).trans h0
      have q1 := (hnx.cell (p := ⟨b, off + k * 2 + 1, none⟩) hb).trans h1
      clear h0 h1
      obtain ⟨c, hc⟩ : ∃ c, Hid (L.getD k nop = c) := ⟨_, Lib.hid rfl⟩
      rw [hc.out] at q0 q1
      obtain ⟨p, r⟩ := c
      dsimp only at q0 q1
      have hnx := Lib.hid hnx
      clear h
      by_cases e1 : p = x
      · subst e1
        by_cases e2 : r = y
        · subst e2
          have hqt := hq.out
          rw [has_t (by rw [hn.out]; exact hlt) hc.out] at hqt
          subst hqt
          go_wp2_with fail
          go_quiet (fail)
          go_wp2_with fail
          go_ret
          exact ⟨rfl, bdrewN hnx.out _⟩
        · have R := Lib.hid (up_to hno.out (show ¬ L.getD k nop = (p, y) by rw [hc.out]; intro e; exact e2 (congrArg Prod.snd e)))
          go_wp2_with fail
          go_quiet (fail)
          go_wp2_with fail
          go_roundw
          case rel => exact ⟨k + 1, by omega, by go_num, R, by go_simp, by go_simp, bdrewN hnx.out _⟩
          case measure => simp [intOf]; omega
      · have R := Lib.hid (up_to hno.out (show ¬ L.getD k nop = (x, y) by rw [hc.out]; intro e; exact e1 (congrArg Prod.fst e)))
        go_wp2_with fail
        go_quiet (fail)
        go_wp2_with fail
        go_roundw
        case rel => exact ⟨k + 1, by omega, by go_num, R, by go_simp, by go_simp, bdrewN hnx.out _⟩
        case measure => simp [intOf]; omega
    · obtain rfl : k = n := by omega
      have hqf := hq.out
      rw [has_f (fun j hj => hno.out j (by rw [← hn.out]; exact hj))] at hqf
      subst hqf
      have hnx := Lib.hid hnx
      clear h
      go_wp2_with fail
      go_ret
      exact ⟨rfl, hnx.out⟩

theorem shas_nil (a : Option Addr) (ca : Nat) (x y : Int) (w : World) :
    Calls Tryz.prog 69 #[.slice a 0 ca, .agg #[.int .i64 x, .int .i64 y]] w fun e w' => e = .returned (.bool (hasP [] (x, y))) ∧ Below w.heap.size w w' := by
  rw [show hasP [] (x, y) = false from rfl]
  go_enter Tryz.func69, Tryz.ntmps69
  go_wp2_with fail
  refine wp_loop_rounds 1 ?_
  rw [rounds_succ]
  go_wp2_with fail
  go_ret
  exact ⟨rfl, (Below.refl _ _).alloc (Nat.le_refl _) _⟩

theorem shas_any (u : Value) (L : List Pid) (x y : Int) (w : World) (h : Ids w u L) :
    Calls Tryz.prog 69 #[u, .agg #[.int .i64 x, .int .i64 y]] w fun e w' => e = .returned (.bool (hasP L (x, y))) ∧ Below w.heap.size w w' := by
  obtain ⟨a, cap, rfl, h1, h2, h3⟩ := h
  rcases h3 with h3 | ⟨b, off, rfl, h4, h5⟩
  · obtain rfl : L = [] := List.length_eq_zero_iff.1 h3
    exact shas_nil a cap x y w
  · exact shas_at b off cap L x y w h4 h2 h5
end Go.Proofs.YtiolhjjkjmepcaaGreatDoor

/- slices.Index and slices.Contains at ids. -/
namespace Go.Proofs.YtiolhjjkjmepcaaGreatDoor
open Go.RowKit
set_option linter.unusedVariables false

set_option maxRecDepth 100000 in
set_option maxHeartbeats 2000000 in
theorem idx_at (b off ca : Nat) (L : List Pid) (x y : Int) (w : World) (hb : b < w.heap.size) (hm : L.length ≤ 2000000) (h : ∀ i, i < L.length → w.cell? ⟨b, off + i * 2, none⟩ = some (.int .i64 (L.getD i nop).1) ∧ w.cell? ⟨b, off + i * 2 + 1, none⟩ = some (.int .i64 (L.getD i nop).2)) :
    Calls Tryz.prog 98 #[.slice (some ⟨b, off, none⟩) L.length ca, .agg #[.int .i64 x, .int .i64 y]] w fun e w' => (∃ z : Int, e = .returned (.int .i64 z) ∧ decide (0 ≤ z) = hasP L (x, y)) ∧ Below w.heap.size w w' := by
  have h := Lib.hid h
  obtain ⟨n, hn⟩ : ∃ n, Hid (L.length = n) := ⟨_, Lib.hid rfl⟩
  obtain ⟨q, hq⟩ : ∃ q, Hid (hasP L (x, y) = q) := ⟨_, Lib.hid rfl⟩
  rw [hn.out] at hm ⊢
  rw [hq.out]
  go_enter Tryz.func98, Tryz.ntmps98
  go_wp2_with fail
  go_loopw [8] (fun i wr => ∃ k : Nat, k ≤ n ∧ i = .int .i64 k ∧ Hid (∀ j, j < k → ¬ L.getD j nop = (x, y)) ∧ wr.cell? ⟨w.heap.size, 0, none⟩ = some (.int .i64 x) ∧ wr.cell? ⟨w.heap.size, 1, none⟩ = some (.int .i64 y) ∧ Below w.heap.size w wr) (fun i _ => n - (intOf i).toNat)
  case atStart => exact ⟨0, Nat.zero_le _, rfl, Lib.hid (fun j hj => absurd hj (Nat.not_lt_zero _)), by go_simp, by go_simp, (Below.refl _ _).alloc (Nat.le_refl _) _⟩
  case round =>
    obtain ⟨k, hk, rfl, hno, x0, x1, hnx⟩ := hrel
    by_cases hlt : k < n
    · obtain ⟨h0, h1⟩ := h.out k (by rw [hn.out]; exact hlt)
      have q0 := (hnx.cell (p := ⟨b, off + k * 2, none⟩) hb).trans h0
      have q1 := (hnx.cell (p := ⟨b, off + k * 2 + 1, none⟩) hb).trans h1
      clear h0 h1
      obtain ⟨c, hc⟩ : ∃ c, Hid (L.getD k nop = c) := ⟨_, Lib.hid rfl⟩
      rw [hc.out] at q0 q1
      obtain ⟨p, r⟩ := c
      dsimp only at q0 q1
      have hnx := Lib.hid hnx
      clear h
      by_cases e1 : p = x
      · subst e1
        by_cases e2 : r = y
        · subst e2
          have hqt := hq.out
          rw [has_t (by rw [hn.out]; exact hlt) hc.out] at hqt
          subst hqt
          go_wp2_with fail
          go_quiet (fail)
          go_wp2_with fail
          go_ret
          exact ⟨⟨_, rfl, by simp⟩, bdrewN hnx.out _⟩
        · have R := Lib.hid (up_to hno.out (show ¬ L.getD k nop = (p, y) by rw [hc.out]; intro e; exact e2 (congrArg Prod.snd e)))
          go_wp2_with fail
          go_quiet (fail)
          go_wp2_with fail
          go_roundw
          case rel => exact ⟨k + 1, by omega, by go_num, R, by go_simp, by go_simp, bdrewN hnx.out _⟩
          case measure => simp [intOf]; omega
      · have R := Lib.hid (up_to hno.out (show ¬ L.getD k nop = (x, y) by rw [hc.out]; intro e; exact e1 (congrArg Prod.fst e)))
        go_wp2_with fail
        go_quiet (fail)
        go_wp2_with fail
        go_roundw
        case rel => exact ⟨k + 1, by omega, by go_num, R, by go_simp, by go_simp, bdrewN hnx.out _⟩
        case measure => simp [intOf]; omega
    · obtain rfl : k = n := by omega
      have hqf := hq.out
      rw [has_f (fun j hj => hno.out j (by rw [← hn.out]; exact hj))] at hqf
      subst hqf
      have hnx := Lib.hid hnx
      clear h
      go_wp2_with fail
      go_ret
      exact ⟨⟨_, rfl, by simp⟩, hnx.out⟩

theorem idx_nil (a : Option Addr) (ca : Nat) (x y : Int) (w : World) :
    Calls Tryz.prog 98 #[.slice a 0 ca, .agg #[.int .i64 x, .int .i64 y]] w fun e w' => (∃ z : Int, e = .returned (.int .i64 z) ∧ decide (0 ≤ z) = hasP [] (x, y)) ∧ Below w.heap.size w w' := by
  rw [show hasP [] (x, y) = false from rfl]
  go_enter Tryz.func98, Tryz.ntmps98
  go_wp2_with fail
  refine wp_loop_rounds 1 ?_
  rw [rounds_succ]
  go_wp2_with fail
  go_ret
  exact ⟨⟨_, rfl, by simp⟩, (Below.refl _ _).alloc (Nat.le_refl _) _⟩

theorem idx_any (u : Value) (L : List Pid) (x y : Int) (w : World) (h : Ids w u L) :
    Calls Tryz.prog 98 #[u, .agg #[.int .i64 x, .int .i64 y]] w fun e w' => (∃ z : Int, e = .returned (.int .i64 z) ∧ decide (0 ≤ z) = hasP L (x, y)) ∧ Below w.heap.size w w' := by
  obtain ⟨a, cap, rfl, h1, h2, h3⟩ := h
  rcases h3 with h3 | ⟨b, off, rfl, h4, h5⟩
  · obtain rfl : L = [] := List.length_eq_zero_iff.1 h3
    exact idx_nil a cap x y w
  · exact idx_at b off cap L x y w h4 h2 h5

theorem cont_any (u : Value) (L : List Pid) (x y : Int) (w : World) (h : Ids w u L) :
    Calls Tryz.prog 90 #[u, .agg #[.int .i64 x, .int .i64 y]] w fun e w' => e = .returned (.bool (hasP L (x, y))) ∧ Below w.heap.size w w' := by
  have h := Lib.hid h
  obtain ⟨q, hq⟩ : ∃ q, Hid (hasP L (x, y) = q) := ⟨_, Lib.hid rfl⟩
  rw [hq.out]
  go_enter Tryz.func90, Tryz.ntmps90
  go_wp2_with fail
  refine (idx_any u L x y _ (h.out.up ((Below.refl _ _).alloc (Nat.le_refl _) _) (Nat.le_refl _))).mono ?_
  rintro e w1 ⟨⟨z, rfl, hz⟩, hb⟩
  have D := Lib.hid (((Below.refl w.heap.size w).alloc (Nat.le_refl _) _).trans (hb.mono (by simp)))
  rw [hq.out] at hz
  clear hb hq h
  go_wp2_with fail
  go_ret
  exact ⟨rfl, D.out⟩
end Go.Proofs.YtiolhjjkjmepcaaGreatDoor

/- replicaFits of the program. -/
namespace Go.Proofs.YtiolhjjkjmepcaaGreatDoor
open Go.RowKit
set_option linter.unusedVariables false

set_option maxRecDepth 100000 in
/-- replicaFits of the program. -/
theorem irf_any (n : Int) (w : World) :
    Calls Tryz.prog 96 #[.int .i64 n] w fun e w' => e = .returned (.bool (decide (0 ≤ n ∧ n ≤ 4))) ∧ w = w' := by
  by_cases h1 : 0 ≤ n
  · by_cases h2 : n ≤ 4
    · rw [decide_eq_true ⟨h1, h2⟩]
      have h3 : n < 5 := by omega
      go_enter Tryz.func96, Tryz.ntmps96
      go_wp2_with fail
      go_ret
      exact ⟨rfl, rfl⟩
    · rw [decide_eq_false (fun h => h2 h.2)]
      have h3 : ¬ n < 5 := by omega
      go_enter Tryz.func96, Tryz.ntmps96
      go_wp2_with fail
      go_ret
      exact ⟨rfl, rfl⟩
  · rw [decide_eq_false (fun h => h1 h.1)]
    go_enter Tryz.func96, Tryz.ntmps96
    go_wp2_with fail
    go_ret
    exact ⟨rfl, rfl⟩

end Go.Proofs.YtiolhjjkjmepcaaGreatDoor

/- Contracts of the functions on ids: valid, compare, IdBefore, of the program and of the model. -/
namespace Go.Proofs.YtiolhjjkjmepcaaGreatDoor
open Go.RowKit
set_option linter.unusedVariables false

theorem idB_t {r n : Int} (h1 : 0 ≤ r) (h2 : r ≤ 4) (h3 : 1 ≤ n) (h4 : n ≤ 50) : idB r n = true := by simp [idB]; omega
theorem idB_f {r n : Int} (h : ¬ (0 ≤ r ∧ r ≤ 4 ∧ 1 ≤ n ∧ n ≤ 50)) : idB r n = false := by simp [idB]; omega
theorem idB_of {r n : Int} (h : idB r n = true) : 0 ≤ r ∧ r ≤ 4 ∧ 1 ≤ n ∧ n ≤ 50 := by simpa [idB] using h
theorem idB_no {r n : Int} (h : idB r n = false) : (¬ 0 ≤ r) ∨ (0 ≤ r ∧ ¬ r ≤ 4) ∨ (0 ≤ r ∧ r ≤ 4 ∧ ¬ 1 ≤ n) ∨ (0 ≤ r ∧ r ≤ 4 ∧ 1 ≤ n ∧ ¬ n ≤ 50) := by simp [idB] at h; omega

/-- valid of the program. -/
theorem ivid_any (r n : Int) (w : World) :
    Calls Tryz.prog 88 #[.agg #[.int .i64 r, .int .i64 n]] w fun e w' => e = .returned (.bool (idB r n)) ∧ Below w.heap.size w w' := by
  have rf := fun W => irf_any r W
  by_cases h1 : 0 ≤ r ∧ r ≤ 4
  · simp only [decide_eq_true h1] at rf
    by_cases h2 : 1 ≤ n
    · by_cases h3 : n ≤ 50
      · rw [idB_t h1.1 h1.2 h2 h3]
        clear h1
        go_enter Tryz.func88, Tryz.ntmps88
        go_wp2_with (go_at_call 96; (with_reducible refine (rf _).mono ?_); rintro e w' ⟨rfl, rfl⟩)
        go_ret
        exact ⟨rfl, (Below.refl _ _).alloc (Nat.le_refl _) _⟩
      · rw [idB_f (fun h => h3 h.2.2.2)]
        clear h1
        go_enter Tryz.func88, Tryz.ntmps88
        go_wp2_with (go_at_call 96; (with_reducible refine (rf _).mono ?_); rintro e w' ⟨rfl, rfl⟩)
        go_ret
        exact ⟨by first | rfl | simp [h3], (Below.refl _ _).alloc (Nat.le_refl _) _⟩
    · rw [idB_f (fun h => h2 h.2.2.1)]
      clear h1
      go_enter Tryz.func88, Tryz.ntmps88
      go_wp2_with (go_at_call 96; (with_reducible refine (rf _).mono ?_); rintro e w' ⟨rfl, rfl⟩)
      go_ret
      exact ⟨rfl, (Below.refl _ _).alloc (Nat.le_refl _) _⟩
  · simp only [decide_eq_false h1] at rf
    rw [idB_f (fun h => h1 ⟨h.1, h.2.1⟩)]
    clear h1
    go_enter Tryz.func88, Tryz.ntmps88
    go_wp2_with (go_at_call 96; (with_reducible refine (rf _).mono ?_); rintro e w' ⟨rfl, rfl⟩)
    go_ret
    exact ⟨rfl, (Below.refl _ _).alloc (Nat.le_refl _) _⟩

/-- IdValid of the model. -/
theorem svid_any (r n : Int) (w : World) :
    Calls Tryz.prog 65 #[.agg #[.int .i64 r, .int .i64 n]] w fun e w' => e = .returned (.bool (idB r n)) ∧ Below w.heap.size w w' := by
  have e1 : idB r n = (inB r 0 4 && inB n 1 50) := by
    rw [Bool.eq_iff_iff]; simp [idB, inB]; omega
  rw [e1]
  have s1 := in_any r 0 4
  have s2 := in_any n 1 50
  generalize inB r 0 4 = p at s1 ⊢
  generalize inB n 1 50 = q at s2 ⊢
  clear e1
  cases p
  · go_enter Tryz.func65, Tryz.ntmps65
    go_wp2_with (go_at_call 66; (with_reducible refine (s1 _).mono ?_); rintro e w' ⟨rfl, rfl⟩)
    go_ret
    exact ⟨rfl, (Below.refl _ _).alloc (Nat.le_refl _) _⟩
  · go_enter Tryz.func65, Tryz.ntmps65
    go_wp2_with (first | (go_at_call 66; (with_reducible refine (s1 _).mono ?_); rintro e w' ⟨rfl, rfl⟩) | (go_at_call 66; (with_reducible refine (s2 _).mono ?_); rintro e w' ⟨rfl, rfl⟩))
    go_ret
    exact ⟨by simp, (Below.refl _ _).alloc (Nat.le_refl _) _⟩

/-- What cmp.Compare answers of numbers. -/
def cmpN (a b : Int) : Int := if a < b then -1 else if b < a then 1 else 0
theorem cmpN_lt {a b : Int} (h : a < b) : cmpN a b = -1 := if_pos h
theorem cmpN_gt {a b : Int} (h : b < a) : cmpN a b = 1 := by unfold cmpN; rw [if_neg (by omega), if_pos h]
theorem cmpN_eq {a b : Int} (h : a = b) : cmpN a b = 0 := by unfold cmpN; rw [if_neg (by omega), if_neg (by omega)]
theorem nan_any (a : Int) (w : World) :
    Calls Tryz.prog 95 #[.int .i64 a] w fun e w' => e = .returned (.bool false) ∧ w = w' := by
  go_enter Tryz.func95, Tryz.ntmps95
  go_wp2_with fail
  go_ret
  exact ⟨by simp, rfl⟩
theorem cmpN_any (a b : Int) (w : World) :
    Calls Tryz.prog 87 #[.int .i64 a, .int .i64 b] w fun e w' => e = .returned (.int .i64 (cmpN a b)) ∧ w = w' := by
  rcases Int.lt_trichotomy a b with h | h | h
  · rw [cmpN_lt h]
    go_enter Tryz.func87, Tryz.ntmps87
    go_wp2_with (go_at_call 95; refine (nan_any _ _).mono ?_; rintro e w' ⟨rfl, rfl⟩)
    go_ret
    exact ⟨rfl, rfl⟩
  · subst h
    rw [cmpN_eq rfl]
    go_enter Tryz.func87, Tryz.ntmps87
    go_wp2_with (go_at_call 95; refine (nan_any _ _).mono ?_; rintro e w' ⟨rfl, rfl⟩)
    go_ret
    exact ⟨rfl, rfl⟩
  · rw [cmpN_gt h]
    have h' : ¬ a < b := by omega
    go_enter Tryz.func87, Tryz.ntmps87
    go_wp2_with (go_at_call 95; refine (nan_any _ _).mono ?_; rintro e w' ⟨rfl, rfl⟩)
    go_ret
    exact ⟨rfl, rfl⟩

/-- What cmp.Or answers of two. -/
def orN (x y : Int) : Int := if x = 0 then y else x
theorem orN_any (b : Nat) (x y : Int) (w : World) (h0 : w.cell? ⟨b, 0, none⟩ = some (.int .i64 x)) (h1 : w.cell? ⟨b, 1, none⟩ = some (.int .i64 y)) :
    Calls Tryz.prog 86 #[.slice (some ⟨b, 0, none⟩) 2 2] w fun e w' => e = .returned (.int .i64 (orN x y)) ∧ w = w' := by
  by_cases hx : x = 0
  · subst hx
    rw [show orN 0 y = y from rfl]
    by_cases hy : y = 0
    · subst hy
      go_enter Tryz.func86, Tryz.ntmps86
      go_wp2_with fail
      refine wp_loop_rounds 3 ?_
      rw [rounds_succ]
      go_wp2_with fail
      rw [rounds_succ]
      go_wp2_with fail
      rw [rounds_succ]
      go_wp2_with fail
      go_ret
      exact ⟨rfl, rfl⟩
    · have hy' : (y != 0) = true := by simpa using hy
      go_enter Tryz.func86, Tryz.ntmps86
      go_wp2_with fail
      refine wp_loop_rounds 3 ?_
      rw [rounds_succ]
      go_wp2_with fail
      rw [rounds_succ]
      go_wp2_with fail
      go_ret
      exact ⟨rfl, rfl⟩
  · rw [show orN x y = x from if_neg hx]
    have hx' : (x != 0) = true := by simpa using hx
    go_enter Tryz.func86, Tryz.ntmps86
    go_wp2_with fail
    refine wp_loop_rounds 1 ?_
    rw [rounds_succ]
    go_wp2_with fail
    go_ret
    exact ⟨rfl, rfl⟩

/-- What compare answers. -/
def cmpI (r n r' n' : Int) : Int := orN (cmpN r r') (cmpN n n')
theorem cmpN_neg {a b : Int} : cmpN a b < 0 ↔ a < b := by unfold cmpN; split <;> (try split) <;> omega
theorem cmpN_zero {a b : Int} : cmpN a b = 0 ↔ a = b := by unfold cmpN; split <;> (try split) <;> omega
theorem cmpI_neg (r n r' n' : Int) : decide (cmpI r n r' n' < 0) = ltB r n r' n' := by
  unfold cmpI orN ltB
  by_cases h : cmpN r r' = 0
  · rw [if_pos h]
    have := cmpN_zero.1 h
    rw [Bool.eq_iff_iff]; simp [cmpN_neg]; omega
  · rw [if_neg h]
    have h' : ¬ r = r' := fun e => h (cmpN_zero.2 e)
    rw [Bool.eq_iff_iff]; simp [cmpN_neg, h']
theorem cmpI_zero (r n r' n' : Int) : (cmpI r n r' n' = 0) ↔ (r = r' ∧ n = n') := by
  unfold cmpI orN
  by_cases h : cmpN r r' = 0
  · rw [if_pos h, cmpN_zero, cmpN_zero.1 h]; simp
  · rw [if_neg h]
    have h' : ¬ r = r' := fun e => h (cmpN_zero.2 e)
    simp [h, h']

theorem still_tail {P : Program} {id : Nat} {Q : Exit → Act → World → Prop} {a : Act} {w : World} {l : List Oper} (n : Nat) (hm : P.follows .mixedOrders = true) (hB : Region.lexTailB .any l.toArray n = true) (W : World) (hW : W = w.drew)
    (h : wpStill P l.toArray W (fun a' => wpList P l.toArray Q (l.drop n) a' W) (l.take n) a) : (Code.region id l.toArray true).wp P Q a w := by
  subst hW; exact wp_region_still_tail n hm hB h

set_option maxRecDepth 100000 in
set_option maxHeartbeats 1000000 in
theorem cmpI_any (r n r' n' : Int) (w : World) :
    Calls Tryz.prog 71 #[.agg #[.int .i64 r, .int .i64 n], .agg #[.int .i64 r', .int .i64 n']] w fun e w' => e = .returned (.int .i64 (cmpI r n r' n')) ∧ Below w.heap.size w w' := by
  have s1 := cmpN_any r r'
  have s2 := cmpN_any n n'
  unfold cmpI
  generalize cmpN r r' = x at s1 ⊢
  generalize cmpN n n' = y at s2 ⊢
  go_enter Tryz.func71, Tryz.ntmps71
  go_upto_region 1 with fail
  obtain ⟨W, hW⟩ : ∃ W, W = ((w.alloc (.cells #[.int .i64 r, .int .i64 n] 25)).alloc (.cells #[.int .i64 r', .int .i64 n'] 25)).drew := ⟨_, rfl⟩
  refine still_tail 10 (by kernel_rfl) (by kernel_rfl) W hW ?_
  simp only [List.take_succ_cons, List.take_zero, List.drop_succ_cons, List.drop_zero]
  have D : Hid (Below w.heap.size w W) := Lib.hid (by subst hW; exact (((Below.refl _ _).alloc (Nat.le_refl _) _).alloc (by simp) _).drew)
  have c0 : W.cell? ⟨w.heap.size, 0, none⟩ = some (.int .i64 r) := by subst hW; go_simp
  have c1 : W.cell? ⟨w.heap.size, 1, none⟩ = some (.int .i64 n) := by subst hW; go_simp
  have c2 : W.cell? ⟨w.heap.size + 1, 0, none⟩ = some (.int .i64 r') := by subst hW; go_simp
  have c3 : W.cell? ⟨w.heap.size + 1, 1, none⟩ = some (.int .i64 n') := by subst hW; go_simp
  clear hW
  iterate 4 still_step
  still_call ((s1 _).mono fun e w' h => ⟨h.1, h.2.symm⟩)
  iterate 4 still_step
  still_call ((s2 _).mono fun e w' h => ⟨h.1, h.2.symm⟩)
  refine wpStill_nil ?_
  go_wp2_with fail
  refine (orN_any _ x y _ (by go_simp) (by go_simp)).mono ?_
  rintro e w1 ⟨rfl, rfl⟩
  go_wp2_with fail
  go_ret
  exact ⟨rfl, D.out.alloc D.out.size _⟩
end Go.Proofs.YtiolhjjkjmepcaaGreatDoor

/- l3Before of the model; boxes of a call with two ids. -/
namespace Go.Proofs.YtiolhjjkjmepcaaGreatDoor
open Go.RowKit
set_option linter.unusedVariables false

/-- l3Before of the model. -/
theorem slt_any (r n r' n' : Int) (w : World) :
    Calls Tryz.prog 64 #[.agg #[.int .i64 r, .int .i64 n], .agg #[.int .i64 r', .int .i64 n']] w fun e w' => e = .returned (.bool (ltB r n r' n')) ∧ Below w.heap.size w w' := by
  rcases Int.lt_trichotomy r r' with h | rfl | h
  · have e1 : ltB r n r' n' = true := by simp [ltB]; omega
    rw [e1]; clear e1
    go_enter Tryz.func64, Tryz.ntmps64
    go_wp2_with fail
    go_ret
    exact ⟨rfl, ((Below.refl _ _).alloc (Nat.le_refl _) _).alloc (by simp) _⟩
  · have e1 : ltB r n r n' = decide (n < n') := by simp [ltB]
    rw [e1]; clear e1
    go_enter Tryz.func64, Tryz.ntmps64
    go_wp2_with fail
    go_ret
    exact ⟨by simp, ((Below.refl _ _).alloc (Nat.le_refl _) _).alloc (by simp) _⟩
  · have e1 : ltB r n r' n' = false := by simp [ltB]; omega
    rw [e1]; clear e1
    have h1 : ¬ r < r' := by omega
    have h2 : (r == r') = false := by simp; omega
    go_enter Tryz.func64, Tryz.ntmps64
    go_wp2_with fail
    go_ret
    exact ⟨rfl, ((Below.refl _ _).alloc (Nat.le_refl _) _).alloc (by simp) _⟩

/-- Two boxes of a call with two ids, behind callees that only make memory. -/
structure Two (w : World) (r n r' n' : Int) (w' : World) : Prop where
  a : w'.heap[w.heap.size]? = some (.cells #[.int .i64 r, .int .i64 n] 25 (0, 0))
  b : w'.heap[w.heap.size + 1]? = some (.cells #[.int .i64 r', .int .i64 n'] 25 (0, 0))
  z : w.heap.size + 2 ≤ w'.heap.size
  d : Below w.heap.size w w'

theorem Two.start (w : World) (r n r' n' : Int) : Two w r n r' n' ((w.alloc (.cells #[.int .i64 r, .int .i64 n] 25)).alloc (.cells #[.int .i64 r', .int .i64 n'] 25)) :=
  ⟨(Below.heap_alloc _ _ _ (by simp)).trans (heap_alloc_new w _), heap_alloc_at _ _ _ (by simp), by simp, ((Below.refl _ _).alloc (Nat.le_refl _) _).alloc (by simp) _⟩
theorem Two.up {w w1 w2 : World} {r n r' n' : Int} (h : Two w r n r' n' w1) (hb : Below w1.heap.size w1 w2) : Two w r n r' n' w2 :=
  ⟨(hb.block _ (by have := h.z; omega)).trans h.a, (hb.block _ (by have := h.z; omega)).trans h.b, Nat.le_trans h.z hb.size, h.d.trans (hb.mono (by have := h.z; omega))⟩
end Go.Proofs.YtiolhjjkjmepcaaGreatDoor

/- The program's add: an id is put into a set in memory. -/
namespace Go.Proofs.YtiolhjjkjmepcaaGreatDoor
open Go.RowKit
set_option linter.unusedVariables false

theorem one_shl (n : Nat) (h : n < 64) : IntKind.u64.wrap ((1 : Int) * 2 ^ n) = ((2 ^ n : Nat) : Int) := by
  have h2 : 2 ^ n < 2 ^ 64 := Nat.pow_lt_pow_right (by decide) h
  have e : ((1 : Int) * 2 ^ n) = ((2 ^ n : Nat) : Int) := by rw [Int.one_mul]; exact (Int.natCast_pow 2 n).symm
  rw [IntKind.wrap_u64, e]
  generalize 2 ^ n = m at h2 ⊢
  omega

set_option maxRecDepth 100000 in
set_option maxHeartbeats 1000000 in
/-- A bit is set in the cell of the replica. -/
theorem add_at (b o pr nr m : Nat) (w : World) (hp : pr < 5) (hq : nr ≤ 50) (hb : b < w.heap.size) (c0 : w.cell? ⟨b, o + pr, none⟩ = some (.int .u64 m)) (f0 : w.frozen? ⟨b, o + pr, none⟩ = false) (hm : m < 2251799813685248) :
    Calls Tryz.prog 102 #[.pointer (some ⟨b, o, none⟩), .agg #[.int .i64 pr, .int .i64 nr]] w fun e w' =>
      e = .returned (.tuple #[]) ∧ ∃ w1, Below w.heap.size w w1 ∧ w' = w1.setCell ⟨b, o + pr, none⟩ (.int .u64 ((m ||| 2 ^ nr : Nat) : Int)) := by
  have ep : ((2 ^ nr : Nat) : Int) = (2 : Int) ^ nr := Int.natCast_pow 2 nr
  have sh : IntKind.u64.wrap ((2 : Int) ^ nr) = (2 : Int) ^ nr := by have := one_shl nr (by omega); rw [Int.one_mul, ep] at this; exact this
  have hp2 : 2 ^ nr < 2 ^ 64 := Nat.pow_lt_pow_right (by decide) (by omega)
  have ob : bits .or .u64 (m : Int) ((2 : Int) ^ nr) = ((m ||| 2 ^ nr : Nat) : Int) := by rw [← ep]; exact bits_or_u64_nat m (2 ^ nr) (by omega) hp2
  have D := Lib.hid ((Below.refl w.heap.size w).alloc (Nat.le_refl _) (.cells #[.int .i64 pr, .int .i64 nr] 25))
  have q0 := (D.out.cell (p := ⟨b, o + pr, none⟩) hb).trans c0
  have q1 := (D.out.frozen (p := ⟨b, o + pr, none⟩) hb).trans f0
  generalize m ||| 2 ^ nr = y at ob ⊢
  clear hp2 ep c0 f0 hm
  go_enter Tryz.func102, Tryz.ntmps102
  go_wp2_with fail
  go_region
  go_wp2_with fail
  all_goals
    go_end0
    refine ⟨rfl, _, D.out.drew, ?_⟩
    rw [World.setCell_drew, World.setCell_alloc_past _ _ _ _ hb]
end Go.Proofs.YtiolhjjkjmepcaaGreatDoor

/- What actOf answers, by kinds. -/
namespace Go.Proofs.YtiolhjjkjmepcaaGreatDoor
open Go.RowKit
set_option linter.unusedVariables false

theorem cv_r {key : Int} (h1 : 0 ≤ key) (h2 : key ≤ 5) : cvB 0 key 0 = true := by simp [cvB]; omega
theorem cv_p {key v : Int} (h1 : 0 ≤ key) (h2 : key ≤ 5) (h3 : 0 ≤ v) (h4 : v ≤ 99) : cvB 1 key v = true := by simp [cvB]; omega
theorem cv_a {key v : Int} (h1 : 0 ≤ key) (h2 : key ≤ 5) (h3 : 0 ≤ v) (h4 : v ≤ 99) : cvB 2 key v = true := by simp [cvB]; omega
theorem cv_n : cvB 3 0 0 = true := by simp [cvB]
theorem act_r (key : Int) (w : World) (h1 : 0 ≤ key) (h2 : key ≤ 5) :
    Calls Tryz.prog 91 #[.agg #[.int .i64 0, .int .i64 key, .int .i64 0]] w fun e w' => e = .returned (.tuple #[.iface 141 (.agg #[.int .i64 key]), .bool true]) ∧ Below w.heap.size w w' := by
  have h := act_yes 0 key 0 w (cv_r h1 h2)
  unfold actV at h
  rw [if_pos (cv_r h1 h2), cv_r h1 h2] at h
  exact h
theorem act_p (key v : Int) (w : World) (h1 : 0 ≤ key) (h2 : key ≤ 5) (h3 : 0 ≤ v) (h4 : v ≤ 99) :
    Calls Tryz.prog 91 #[.agg #[.int .i64 1, .int .i64 key, .int .i64 v]] w fun e w' => e = .returned (.tuple #[.iface 143 (.agg #[.int .i64 key, .int .i64 v]), .bool true]) ∧ Below w.heap.size w w' := by
  have h := act_yes 1 key v w (cv_p h1 h2 h3 h4)
  unfold actV at h
  rw [if_pos (cv_p h1 h2 h3 h4), cv_p h1 h2 h3 h4] at h
  exact h
theorem act_a (key v : Int) (w : World) (h1 : 0 ≤ key) (h2 : key ≤ 5) (h3 : 0 ≤ v) (h4 : v ≤ 99) :
    Calls Tryz.prog 91 #[.agg #[.int .i64 2, .int .i64 key, .int .i64 v]] w fun e w' => e = .returned (.tuple #[.iface 144 (.agg #[.int .i64 key, .int .i64 v]), .bool true]) ∧ Below w.heap.size w w' := by
  have h := act_yes 2 key v w (cv_a h1 h2 h3 h4)
  unfold actV at h
  rw [if_pos (cv_a h1 h2 h3 h4), cv_a h1 h2 h3 h4] at h
  exact h
theorem act_n (w : World)  :
    Calls Tryz.prog 91 #[.agg #[.int .i64 3, .int .i64 0, .int .i64 0]] w fun e w' => e = .returned (.tuple #[.iface 146 (.agg #[]), .bool true]) ∧ Below w.heap.size w w' := by
  have h := act_yes 3 0 0 w (cv_n )
  unfold actV at h
  rw [if_pos (cv_n ), cv_n ] at h
  exact h

theorem act_any (k key v : Int) (w : World) :
    Calls Tryz.prog 91 #[.agg #[.int .i64 k, .int .i64 key, .int .i64 v]] w fun e w' => e = .returned (.tuple #[actV k key v, .bool (cvB k key v)]) ∧ Below w.heap.size w w' := by
  by_cases h : cvB k key v = true
  · exact act_yes k key v w h
  · exact act_no k key v w (by simpa using h)

theorem cv_of {k key v : Int} (h : cvB k key v = true) : (k = 0 ∧ 0 ≤ key ∧ key ≤ 5 ∧ v = 0) ∨ (k = 1 ∧ 0 ≤ key ∧ key ≤ 5 ∧ 0 ≤ v ∧ v ≤ 99) ∨ (k = 2 ∧ 0 ≤ key ∧ key ≤ 5 ∧ 0 ≤ v ∧ v ≤ 99) ∨ (k = 3 ∧ key = 0 ∧ v = 0) := by
  unfold cvB at h; exact of_decide_eq_true h
end Go.Proofs.YtiolhjjkjmepcaaGreatDoor

/- CommandValid of the program. -/
namespace Go.Proofs.YtiolhjjkjmepcaaGreatDoor
open Go.RowKit
set_option linter.unusedVariables false

theorem ivalid_any (k key v : Int) (w : World) :
    Calls Tryz.prog 75 #[.agg #[.int .i64 k, .int .i64 key, .int .i64 v]] w fun e w' => e = .returned (.bool (cvB k key v)) ∧ Below w.heap.size w w' := by
  have s1 := act_any k key v
  generalize actV k key v = x1 at s1
  generalize cvB k key v = q1 at s1
  go_enter Tryz.func75, Tryz.ntmps75
  go_wp2_with fail
  refine (s1 _).mono ?_
  rintro e w1 ⟨rfl, hb1⟩
  have D1 := Lib.hid (((Below.refl _ _).alloc (Nat.le_refl _) _).trans (hb1.mono (by simp)))
  clear hb1
  go_wp2_with fail
  go_ret
  exact ⟨rfl, D1.out⟩
end Go.Proofs.YtiolhjjkjmepcaaGreatDoor

/- A map by ids: what it holds, as a function of the id. -/
namespace Go.Proofs.YtiolhjjkjmepcaaGreatDoor
open Go.RowKit
open Go.Maps (Keyed IsMap)
set_option linter.unusedVariables false
set_option maxRecDepth 100000

theorem wide_id : (match Tryz.prog.underlying 25 with | some (.array _ _) | some (.struct _) => true | _ => false) = true := by rw [Tryz.underlying25]
theorem id_law : Keyed Tryz.prog 25 := Keyed.of_law (deep_law_laid (show laidOutB Tryz.prog = true by kernel_rfl) (m := 2) (by omega) (show (25 : TypeId) < Tryz.prog.types.size from of_decide_eq_true (by kernel_rfl)) (by kernel_rfl) wide_id)
/-- In the range of int. -/
def inR (a : Pid) : Prop := (Lit.int .i64 a.1).wf = true ∧ (Lit.int .i64 a.2).wf = true
def idv2 (a : Pid) : Value := .agg #[.int .i64 a.1, .int .i64 a.2]
/-- What an id reads as, as a key. -/
noncomputable def klP (a : Pid) : Lit := (keyOf Tryz.prog 25 (idv2 a)).getD .nil
theorem key_of {a : Pid} (h : inR a) : keyOf Tryz.prog 25 (idv2 a) = some (klP a) := by
  have hs : (keyOf Tryz.prog 25 (idv2 a)).isSome = true := by
    obtain ⟨m, hm⟩ : ∃ m, Tryz.prog.types.size = m + 1 := ⟨Tryz.prog.types.size - 1, (Nat.succ_pred_eq_of_pos (of_decide_eq_true (by kernel_rfl))).symm⟩
    have c2 : Tryz.prog.cellsOf 25 = 2 := by kernel_rfl
    have c1 : Tryz.prog.cellsOf 3 = 1 := by kernel_rfl
    have kt : Tryz.prog.keyType 25 = true := by kernel_rfl
    obtain ⟨h1, h2⟩ := h
    unfold keyOf idv2
    rw [hm]
    simp [Tryz.underlying25, Tryz.underlying3, kt, Value.formed, Value.cells, Program.keyLits, c1, c2, h1, h2]
  unfold klP
  cases e : keyOf Tryz.prog 25 (idv2 a) with
  | none => rw [e] at hs; cases hs
  | some l => rfl
theorem kl_key {a : Pid} (h : inR a) : WideAt.IsKeyLit (klP a) := id_law.key (key_of h)
theorem kl_inj {a b : Pid} (ha : inR a) (hb : inR b) (e : klP a = klP b) : a = b := by
  have h1 := key_of ha
  have h2 := key_of hb
  rw [e] at h1
  have := id_law.inj h1 h2
  unfold idv2 at this
  injection this with this
  have e1 := congrArg (fun x : Array Value => x[0]?) this
  have e2 := congrArg (fun x : Array Value => x[1]?) this
  simp at e1 e2
  exact Prod.ext e1 e2
theorem make_book (n : Int) (w : World) : (Instr.makeMap 60 (some (.int .i64 n))).run Tryz.prog w = .ok (.map (some w.heap.size)) (w.alloc (.map #[] 0)) := by
  unfold Instr.makeMap
  simp [go_sem]
/-- Elements as they are. -/
def Rv (v : Value) : Option (DataW Value × List MemPlace) := some (.held v, [])
/-- Block bb is a map of at most n entries that holds M. -/
def Book (w : World) (bb n : Nat) (M : Pid → Option Value) : Prop :=
  ∃ D : DataW Value, w.ownsMap Tryz.prog 25 Rv bb n D ∧ (∀ a, inR a → Maps.has D (klP a) = (M a).isSome ∧ ∀ v, M a = some v → ∀ zd, D.atKey (klP a) zd = .held v)
theorem Book.made (w : World) : Book (w.alloc (.map #[] 0)) w.heap.size 0 fun _ => none :=
  ⟨.map [], World.ownsMap_made _ _ _ _, fun a _ => ⟨rfl, fun v h => nomatch h⟩⟩
theorem Book.lt {w : World} {bb n : Nat} {M : Pid → Option Value} (h : Book w bb n M) : bb < w.heap.size := by obtain ⟨D, h, _⟩ := h; exact h.lt
theorem Book.same {w w' : World} {bb n : Nat} {M : Pid → Option Value} (h : Book w bb n M) (e : w'.heap[bb]? = w.heap[bb]?) : Book w' bb n M := by
  obtain ⟨D, ⟨es, clock, hb, r⟩, h2⟩ := h
  exact ⟨D, ⟨es, clock, e.trans hb, r⟩, h2⟩
theorem Book.up {w w' : World} {bb n B : Nat} {M : Pid → Option Value} (h : Book w bb n M) (hb : Below B w w') (hB : bb < B) : Book w' bb n M := h.same (hb.block bb hB)
theorem inR_ok {a : Pid} (h : okP a = true) : inR a := by
  have : 0 ≤ a.1 ∧ a.1 ≤ 4 ∧ 1 ≤ a.2 ∧ a.2 ≤ 50 := by simpa [okP, idB] using h
  exact ⟨WalkArith.wf_i64 (by omega), WalkArith.wf_i64 (by omega)⟩
/-- An entry is stored. -/
theorem Book.put {w : World} {bb n : Nat} {M : Pid → Option Value} {t e : TypeId} (h : Book w bb n M) (ht : Tryz.prog.underlying t = some (.map 25 e)) (hn : n < maxLen) {a : Pid} (ha : inR a) (v : Value) :
    ∃ w', (Instr.mapUpdate t (.map (some bb)) (idv2 a) v).run Tryz.prog w = .ok () w' ∧ Book w' bb (n + 1) (fun x => if x = a then some v else M x) ∧ w.grownBy w' (some bb) := by
  obtain ⟨D, h1, h2⟩ := h
  obtain ⟨w', r1, r2, r3⟩ := h1.update id_law ht hn (key_of ha) (d := .held v) (ps := []) rfl
  refine ⟨w', r1, ⟨_, r2, fun x hx => ?_⟩, r3⟩
  dsimp only
  by_cases e : x = a
  · subst e
    rw [if_pos rfl]
    exact ⟨Maps.has_put_same h1.isMap (kl_key hx) _, fun v' h' zd => by injection h' with h'; subst h'; exact Maps.atKey_put_same h1.isMap (kl_key hx) _ _⟩
  · rw [if_neg e]
    have hne : klP x ≠ klP a := fun h => e (kl_inj hx ha h)
    exact ⟨(Maps.has_put_other hne _).trans (h2 x hx).1, fun v' h' zd => (Maps.atKey_put_other hne _ _).trans ((h2 x hx).2 v' h' zd)⟩
/-- An entry is looked up. -/
theorem Book.look {w : World} {bb n : Nat} {M : Pid → Option Value} {t e : TypeId} (h : Book w bb n M) (ht : Tryz.prog.underlying t = some (.map 25 e)) {z : Value} (hz : (zeroValue e).run Tryz.prog w = .ok z w) {a : Pid} (ha : inR a) :
    (Instr.lookup t (.map (some bb)) (idv2 a) true).run Tryz.prog w = .ok (.tuple #[(M a).getD z, .bool (M a).isSome]) w := by
  obtain ⟨D, h1, h2⟩ := h
  obtain ⟨v, ps, r1, r2⟩ := h1.look_ok id_law ht hz (zd := .held z) (zp := []) rfl (key_of ha)
  obtain ⟨g1, g2⟩ := h2 a ha
  rw [r1, g1]
  have e : v = (M a).getD z := by
    unfold Rv at r2
    injection r2 with r2
    injection r2 with r2 _
    cases hM : M a with
    | none =>
      rw [hM] at g1
      rw [Maps.atKey_of_not_has (by simpa using g1)] at r2
      injection r2
    | some v' =>
      rw [g2 v' hM] at r2
      injection r2
  rw [e]
theorem book_nil {w : World} {t e : TypeId} (ht : Tryz.prog.underlying t = some (.map 25 e)) {z : Value} (hz : (zeroValue e).run Tryz.prog w = .ok z w) {a : Pid} (ha : inR a) :
    (Instr.lookup t (.map none) (idv2 a) true).run Tryz.prog w = .ok (.tuple #[z, .bool false]) w := Maps.look_nil true id_law ht hz (key_of ha)
end Go.Proofs.YtiolhjjkjmepcaaGreatDoor
