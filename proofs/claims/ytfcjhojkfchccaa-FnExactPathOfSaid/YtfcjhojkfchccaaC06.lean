/- Texts laid together. -/
import Derived.Test.YtfcjhojkfchccaaC01
import Derived.Deep.RegionWith
import Derived.Test.YtfcjhojkfchccaaC03
import Derived.Test.YtfcjhojkfchccaaC07
import Derived.Maps.AppendAt
/- Ids made in a row: plain facts. -/
namespace Go.Proofs.Ytfcjhojkfchccaa
open Go.RowKit
set_option linter.unusedVariables false

theorem madeP (n j : Nat) (h : j < n * 2) : (madeCells #[.int .i64 0, .int .i64 0] (n * 2))[j]? = some (.int .i64 0) := by
  unfold madeCells
  rw [Array.getElem?_map, Array.getElem?_range]
  rw [if_pos h]
  have : j % 2 = 0 ∨ j % 2 = 1 := by omega
  rcases this with e | e <;> simp [e]

theorem repP_get (n i : Nat) : (List.replicate n nop).getD i nop = nop := by
  rw [List.getD_eq_getElem?_getD, List.getElem?_replicate]
  split <;> rfl

theorem ownP_made (w : World) (n : Nat) (hn : n ≤ 2000000) (t : TypeId) : OwnP (w.alloc (.cells (madeCells #[.int .i64 0, .int .i64 0] (n * 2)) t)) w.heap.size (.slice (some ⟨w.heap.size, 0, none⟩) n n) (List.replicate n nop) := by
  refine ⟨n, _, t, by simp, heap_alloc_new w _, by simp, by simpa using hn, fun i hi => ?_⟩
  rw [List.length_replicate] at hi
  rw [madeP n _ (by omega), madeP n _ (by omega), repP_get]
  exact ⟨rfl, rfl⟩

theorem info_id : (Try.prog.info? 24).map (fun i => (i.zero, i.size, i.bytes)) = some (some (.agg #[.int .i64 0, .int .i64 0]), 2, 16) := by kernel_rfl

theorem made_ids (n : Nat) (hn : n ≤ 2000000) (w : World) : (Instr.makeSlice 27 (.int .i64 n) (.int .i64 n)).run Try.prog w = .ok (.slice (some ⟨w.heap.size, 0, none⟩) n n) (w.alloc (.cells (madeCells #[.int .i64 0, .int .i64 0] (n * 2)) 24)) := by
  obtain ⟨i, hi, hz, hs, hb⟩ := info_parts info_id
  have hr := run_make (P := Try.prog) w 27 24 i _ Try.underlying27 hi hz .i64 .i64 n n (by omega) (Int.le_refl _) (by rw [hb]; omega) (by omega)
  simp only [Int.toNat_natCast, hs] at hr
  exact hr

theorem id_same {A B : List Pid} (hl : A.length = B.length) (h : ∀ j, j < A.length → A.getD j nop = B.getD j nop) : A = B := by
  apply List.ext_getElem hl
  intro i h1 h2
  have := h i h1
  rw [List.getD_eq_getElem?_getD, List.getD_eq_getElem?_getD, List.getElem?_eq_getElem h1, List.getElem?_eq_getElem h2] at this
  simpa using this
theorem id_up {M C : List Pid} {k : Nat} (hM : k < M.length) (h : ∀ j, j < k → M.getD j nop = C.getD j nop) : ∀ j, j < k + 1 → (M.set k (C.getD k nop)).getD j nop = C.getD j nop := by
  intro j hj
  by_cases e : j = k
  · subst e; rw [List.getD_eq_getElem?_getD, List.getElem?_set_self hM]; rfl
  · rw [List.getD_eq_getElem?_getD, List.getElem?_set_ne (fun x => e x.symm), ← List.getD_eq_getElem?_getD]; exact h j (by omega)
end Go.Proofs.Ytfcjhojkfchccaa

/- The laws' copies of slices of entries. -/
namespace Go.Proofs.Ytfcjhojkfchccaa
open Go.RowKit
set_option linter.unusedVariables false

/-- The cells of one entry in a row. -/
def EnC (cur : Array Value) (i : Nat) (e : En) (u : Value) : Prop := ∀ j, j < 9 → cur[i * 9 + j]? = (enc9 e u)[j]?
/-- A slice of entries in a block of its own, with lists in blocks of their own, all from B on. -/
def EnO (w : World) (B : Nat) (v : Value) (E : List En) : Prop :=
  ∃ g cap cur t, v = .slice (some ⟨g, 0, none⟩) E.length cap ∧ B ≤ g ∧ w.heap[g]? = some (.cells cur t (0, 0)) ∧ E.length ≤ cap ∧ E.length ≤ 2000000 ∧
    ∀ i, i < E.length → ∃ b u, B ≤ b ∧ b ≠ g ∧ EnC cur i (E.getD i en0) u ∧ OwnP w b u (E.getD i en0).deps
theorem enc_at {w : World} {g : Nat} {cur : Array Value} {t : TypeId} {i : Nat} {e : En} {u : Value} (hg : w.heap[g]? = some (.cells cur t (0, 0))) (hc : EnC cur i e u) (hI : Ids w u e.deps) : EnAt w g (0 + i * 9) e u := by
  have c := fun j hj => hc j hj
  rw [Nat.zero_add]
  refine ⟨?_, ?_, ?_, ?_, ?_, ?_, ?_, ?_, ?_, hI⟩ <;> rw [cell_of_cells hg]
  · exact c 0 (by omega)
  · exact c 1 (by omega)
  · exact c 2 (by omega)
  · exact c 3 (by omega)
  · exact c 4 (by omega)
  · exact c 5 (by omega)
  · exact c 6 (by omega)
  · exact c 7 (by omega)
  · exact c 8 (by omega)
theorem EnO.read {w : World} {B : Nat} {v : Value} {E : List En} (h : EnO w B v E) : Ens w v E := by
  obtain ⟨g, cap, cur, t, rfl, _, hg, h1, h2, h3⟩ := h
  have h' : ∀ i, ∃ u, i < E.length → EnC cur i (E.getD i en0) u ∧ Ids w u (E.getD i en0).deps := fun i => by
    by_cases hi : i < E.length
    · obtain ⟨b, u, _, _, hc, hO⟩ := h3 i hi
      exact ⟨u, fun _ => ⟨hc, hO.read⟩⟩
    · exact ⟨.slice none 0 0, fun hh => absurd hh hi⟩
  refine ⟨_, cap, rfl, h1, h2, .inr ⟨g, 0, fun i => Classical.choose (h' i), rfl, lt_of_heap hg, fun i hi => ?_⟩⟩
  obtain ⟨hc, hI⟩ := Classical.choose_spec (h' i) hi
  exact enc_at hg hc hI
theorem EnO.up {w w' : World} {B : Nat} {v : Value} {E : List En} (h : EnO w B v E) (hb : Below w.heap.size w w') : EnO w' B v E := by
  obtain ⟨g, cap, cur, t, rfl, h0, hg, h1, h2, h3⟩ := h
  refine ⟨g, cap, cur, t, rfl, h0, (hb.block g (lt_of_heap hg)).trans hg, h1, h2, fun i hi => ?_⟩
  obtain ⟨b, u, q1, q2, hc, ho⟩ := h3 i hi
  exact ⟨b, u, q1, q2, hc, ho.up hb ho.lt⟩

theorem info_en : (Try.prog.info? 29).map (fun i => (i.zero, i.size, i.bytes)) = some (some (.agg #[.int .i64 0, .int .i64 0, .int .i64 0, .int .i64 0, .int .i64 0, .int .i64 0, .int .i64 0, .int .i64 0, .slice none 0 0]), 9, 88) := by kernel_rfl
theorem made_ens (n : Nat) (hn : n ≤ 2000000) (w : World) : (Instr.makeSlice 30 (.int .i64 n) (.int .i64 n)).run Try.prog w = .ok (.slice (some ⟨w.heap.size, 0, none⟩) n n) (w.alloc (.cells (madeCells #[.int .i64 0, .int .i64 0, .int .i64 0, .int .i64 0, .int .i64 0, .int .i64 0, .int .i64 0, .int .i64 0, .slice none 0 0] (n * 9)) 29)) := by
  obtain ⟨i, hi, hz, hs, hb⟩ := info_parts info_en
  have hr := run_make (P := Try.prog) w 30 29 i _ Try.underlying30 hi hz .i64 .i64 n n (by omega) (Int.le_refl _) (by rw [hb]; omega) (by omega)
  simp only [Int.toNat_natCast, hs] at hr
  exact hr

/-- Copies so far. -/
def EnK (w : World) (B g n k : Nat) (E : List En) : Prop :=
  ∃ cur t, w.heap[g]? = some (.cells cur t (0, 0)) ∧ cur.size = n * 9 ∧ ∀ i, i < k → ∃ b u, B ≤ b ∧ b ≠ g ∧ EnC cur i (E.getD i en0) u ∧ OwnP w b u (E.getD i en0).deps
theorem EnK.lt {w : World} {B g n k : Nat} {E : List En} (h : EnK w B g n k E) : g < w.heap.size := by obtain ⟨cur, t, h, _⟩ := h; exact lt_of_heap h
theorem EnK.up {w w' : World} {B g n k : Nat} {E : List En} (h : EnK w B g n k E) (hb : Below w.heap.size w w') : EnK w' B g n k E := by
  obtain ⟨cur, t, h1, h2, h3⟩ := h
  refine ⟨cur, t, (hb.block g (lt_of_heap h1)).trans h1, h2, fun i hi => ?_⟩
  obtain ⟨b, u, q1, q2, hc, ho⟩ := h3 i hi
  exact ⟨b, u, q1, q2, hc, ho.up hb ho.lt⟩
theorem EnK.old {w : World} {B g n k : Nat} {E : List En} (h : EnK w B g n k E) {j : Nat} (hj : j < n * 9) : (∃ y, w.cell? ⟨g, j, none⟩ = some y) ∧ w.frozen? ⟨g, j, none⟩ = false := by
  obtain ⟨cur, t, h1, h2, _⟩ := h
  exact ⟨⟨cur[j]'(by omega), by rw [cell_of_cells h1]; simp [show j < cur.size by omega]⟩, by simp [World.frozen?, h1]⟩
theorem EnK.put {w : World} {B g n k : Nat} {E : List En} (h : EnK w B g n k E) (hk : k < n) {b : Nat} {u : Value} {e : En} (he : E.getD k en0 = e) (hB : B ≤ b) (hbg : b ≠ g) (ho : OwnP w b u e.deps) :
    EnK (((((((((w.setCell ⟨g, k * 9, none⟩ (.int .i64 e.id.1)).setCell ⟨g, k * 9 + 1, none⟩ (.int .i64 e.id.2)).setCell ⟨g, k * 9 + 2, none⟩ (.int .i64 e.bal)).setCell ⟨g, k * 9 + 3, none⟩ (.int .i64 e.st)).setCell ⟨g, k * 9 + 4, none⟩ (.int .i64 e.k)).setCell ⟨g, k * 9 + 5, none⟩ (.int .i64 e.key)).setCell ⟨g, k * 9 + 6, none⟩ (.int .i64 e.v)).setCell ⟨g, k * 9 + 7, none⟩ (.int .i64 e.seq)).setCell ⟨g, k * 9 + 8, none⟩ (u)) B g n (k + 1) E := by
  obtain ⟨cur, t, h1, h2, h3⟩ := h
  have oth : ∀ c, c ≠ g → (((((((((w.setCell ⟨g, k * 9, none⟩ (.int .i64 e.id.1)).setCell ⟨g, k * 9 + 1, none⟩ (.int .i64 e.id.2)).setCell ⟨g, k * 9 + 2, none⟩ (.int .i64 e.bal)).setCell ⟨g, k * 9 + 3, none⟩ (.int .i64 e.st)).setCell ⟨g, k * 9 + 4, none⟩ (.int .i64 e.k)).setCell ⟨g, k * 9 + 5, none⟩ (.int .i64 e.key)).setCell ⟨g, k * 9 + 6, none⟩ (.int .i64 e.v)).setCell ⟨g, k * 9 + 7, none⟩ (.int .i64 e.seq)).setCell ⟨g, k * 9 + 8, none⟩ (u)).heap[c]? = w.heap[c]? := fun c hc => by
    rw [heap_setCell_other _ _ _ _ hc, heap_setCell_other _ _ _ _ hc, heap_setCell_other _ _ _ _ hc, heap_setCell_other _ _ _ _ hc, heap_setCell_other _ _ _ _ hc, heap_setCell_other _ _ _ _ hc, heap_setCell_other _ _ _ _ hc, heap_setCell_other _ _ _ _ hc, heap_setCell_other _ _ _ _ hc]
  have e0 := heap_setCell_same _ g (k * 9 + 8) _ _ (u) (heap_setCell_same _ g (k * 9 + 7) _ _ (.int .i64 e.seq) (heap_setCell_same _ g (k * 9 + 6) _ _ (.int .i64 e.v) (heap_setCell_same _ g (k * 9 + 5) _ _ (.int .i64 e.key) (heap_setCell_same _ g (k * 9 + 4) _ _ (.int .i64 e.k) (heap_setCell_same _ g (k * 9 + 3) _ _ (.int .i64 e.st) (heap_setCell_same _ g (k * 9 + 2) _ _ (.int .i64 e.bal) (heap_setCell_same _ g (k * 9 + 1) _ _ (.int .i64 e.id.2) (heap_setCell_same _ g (k * 9) _ _ (.int .i64 e.id.1) (h1)))))))))
  refine ⟨_, t, e0, by simpa using h2, fun i hi => ?_⟩
  rcases Nat.lt_or_ge i k with hlt | hge
  · obtain ⟨b', u', q1, q2, hc, hO⟩ := h3 i hlt
    refine ⟨b', u', q1, q2, fun j hj => ?_, hO.same (oth b' q2)⟩
    rw [← hc j hj]
    repeat rw [Array.getElem?_setIfInBounds_ne (by omega)]
  · obtain rfl : i = k := by omega
    rw [he]
    refine ⟨b, u, hB, hbg, fun j hj => ?_, ho.same (oth b hbg)⟩
    have hsz : i * 9 + 8 < cur.size := by omega
    rcases (show j = 0 ∨ j = 1 ∨ j = 2 ∨ j = 3 ∨ j = 4 ∨ j = 5 ∨ j = 6 ∨ j = 7 ∨ j = 8 by omega) with rfl | rfl | rfl | rfl | rfl | rfl | rfl | rfl | rfl <;> simp [Array.getElem?_setIfInBounds, enc9] <;> omega
theorem enK_made (w : World) (n : Nat) (E : List En) (t : TypeId) : EnK (w.alloc (.cells (madeCells #[.int .i64 0, .int .i64 0, .int .i64 0, .int .i64 0, .int .i64 0, .int .i64 0, .int .i64 0, .int .i64 0, .slice none 0 0] (n * 9)) t)) w.heap.size w.heap.size n 0 E :=
  ⟨_, t, heap_alloc_new w _, by simp [madeCells], fun i hi => absurd hi (Nat.not_lt_zero _)⟩
end Go.Proofs.Ytfcjhojkfchccaa

/- Rows of entries that are being built. -/
namespace Go.Proofs.Ytfcjhojkfchccaa
open Go.RowKit
set_option linter.unusedVariables false

/-- A block's kind. -/
def BkT (w : World) (b : Nat) (t : TypeId) : Prop := ∃ cur, w.heap[b]? = some (.cells cur t (0, 0))
theorem BkT.ne {w : World} {b c : Nat} {t u : TypeId} (h : BkT w b t) (g : BkT w c u) (hn : t ≠ u) : b ≠ c := fun e => by
  obtain ⟨_, h⟩ := h; obtain ⟨_, g⟩ := g; subst e; rw [h] at g; simp at g; exact hn g.2
theorem BkT.lt {w : World} {b : Nat} {t : TypeId} (h : BkT w b t) : b < w.heap.size := by obtain ⟨_, h⟩ := h; exact lt_of_heap h
theorem rowT {w : World} {B : Nat} {e : TypeId} {size : Nat} {v : Value} {n : Nat} {xs : List Value} (h : w.ownsRow B e size v n xs) {k : Nat} (hk : v.ownBlock = some k) : BkT w k e ∧ B ≤ k := by
  rcases h.2 with ⟨rfl, _⟩ | ⟨g, cap, cur, rfl, hb, hg, _⟩
  · simp [Value.ownBlock] at hk
  · simp [Value.ownBlock] at hk; subst hk; exact ⟨⟨cur, hg⟩, hb⟩
theorem rowSame {w w' : World} {B : Nat} {e : TypeId} {size : Nat} {v : Value} {n : Nat} {xs : List Value} (h : w.ownsRow B e size v n xs) (hs : ∀ k, v.ownBlock = some k → w'.heap[k]? = w.heap[k]?) : w'.ownsRow B e size v n xs := by
  refine ⟨h.1, ?_⟩
  rcases h.2 with hn | ⟨g, cap, cur, rfl, hb, hg, rest⟩
  · exact .inl hn
  · exact .inr ⟨g, cap, cur, rfl, hb, (hs g rfl).trans hg, rest⟩
theorem Row.ownE {w : World} {B : Nat} {v : Value} {O : List Pid} (h : Row w B v O) (hl : O.length ≤ 2000000) : ∃ b, B ≤ b ∧ BkT w b 24 ∧ OwnP w b v O := by
  obtain ⟨b, hb, hO⟩ := h.own hl
  have e : v.ownBlock = some b := by obtain ⟨c, rfl, _⟩ := hO.shape; rfl
  exact ⟨b, hb, (rowT h.1 e).1, hO⟩

/-- Entries with the values of their lists. -/
abbrev EL : Type := List (En × Value)
def ecell (x : En × Value) : List Value := enc9 x.1 x.2
def flatE : EL → List Value
  | [] => []
  | x :: r => ecell x ++ flatE r
theorem ecell_len (x : En × Value) : (ecell x).length = 9 := rfl
theorem flatE_app : ∀ (A B : EL), flatE (A ++ B) = flatE A ++ flatE B
  | [], B => rfl
  | c :: r, B => by simp [flatE, flatE_app r B]
theorem flatE_len : ∀ L : EL, (flatE L).length = L.length * 9
  | [] => rfl
  | c :: r => by simp [flatE, ecell_len, flatE_len r]; omega
def ez : En × Value := (en0, .slice none 0 0)
theorem flatE_get : ∀ (L : EL) (i j : Nat), i < L.length → j < 9 → (flatE L)[i * 9 + j]? = (ecell (L.getD i ez))[j]?
  | [], i, j, h, _ => absurd h (by simp)
  | x :: r, 0, j, _, hj => by
    rw [flatE, Nat.zero_mul, Nat.zero_add, List.getElem?_append_left (by rw [ecell_len]; exact hj)]; rfl
  | x :: r, i + 1, j, h, hj => by
    have ih := flatE_get r i j (by simpa using h) hj
    rw [flatE, List.getElem?_append_right (by rw [ecell_len]; omega)]
    have e : (i + 1) * 9 + j - (ecell x).length = i * 9 + j := by rw [ecell_len]; omega
    rw [e, ih]; rfl

/-- A slice of entries that is being built. -/
structure ER (w : World) (B : Nat) (v : Value) (L : EL) : Prop where
  row : w.ownsRow B 29 9 v L.length (flatE L)
  nn : v ≠ .slice none 0 0
  deps : ∀ x ∈ L, ∃ b, B ≤ b ∧ v.ownBlock ≠ some b ∧ OwnP w b x.2 x.1.deps
theorem er_new (w : World) (B : Nat) (hB : B ≤ w.heap.size) : ER (w.alloc (.cells #[] 29)) B (.slice (some ⟨w.heap.size, 0, none⟩) 0 0) [] :=
  ⟨World.ownsRow_made _ #[] 0 hB (Nat.zero_le _) rfl, by simp, fun _ h => nomatch h⟩
section
variable {w w' : World} {B : Nat} {v : Value} {L : EL}
theorem ER.same (h : ER w B v L) (hk : ∀ b, B ≤ b → b < w.heap.size → w'.heap[b]? = w.heap[b]?) : ER w' B v L := by
  refine ⟨rowSame h.row fun k hk' => hk k (rowT h.row hk').2 (rowT h.row hk').1.lt, h.nn, fun x hx => ?_⟩
  obtain ⟨b, h1, h2, h3⟩ := h.deps x hx
  exact ⟨b, h1, h2, h3.same (hk b h1 h3.lt)⟩
theorem ER.up (h : ER w B v L) (hb : Below w.heap.size w w') : ER w' B v L := h.same fun b _ hl => hb.block b hl
theorem ER.put (h : ER w B v L) {o : Obj} {v' : Value} {x : En × Value} (hown : w'.ownsRow B 29 9 v' (L.length + 1) (flatE L ++ ecell x)) (hg : (w.alloc o).grownBy w' (Value.ownBlock v)) (hn : v' ≠ .slice none 0 0)
    (hat : v'.ownBlock = v.ownBlock ∨ v'.ownBlock = some (w.heap.size + 1)) (hx : ∃ b, B ≤ b ∧ v.ownBlock ≠ some b ∧ OwnP w b x.2 x.1.deps) : ER w' B v' (L ++ [x]) := by
  have keep : ∀ b, b < w.heap.size → v.ownBlock ≠ some b → w'.heap[b]? = w.heap[b]? := fun b hl hne =>
    (hg.block b (by simp; omega) (fun e => hne e.symm)).trans (Below.heap_alloc _ _ _ hl)
  refine ⟨by rw [flatE_app, List.length_append]; simpa [flatE] using hown, hn, fun y hy => ?_⟩
  have hh : ∃ b, B ≤ b ∧ v.ownBlock ≠ some b ∧ OwnP w b y.2 y.1.deps := by
    rcases List.mem_append.1 hy with hy | hy
    · exact h.deps y hy
    · rw [List.mem_singleton] at hy; rw [hy]; exact hx
  obtain ⟨b, h1, h2, h3⟩ := hh
  refine ⟨b, h1, ?_, h3.same (keep b h3.lt h2)⟩
  rcases hat with e | e
  · rw [e]; exact h2
  · rw [e]; intro e'; injection e' with e'; have := h3.lt; omega
/-- What an append leaves of other blocks. -/
theorem ER.grown (h : ER w B v L) {o : Obj} (hg : (w.alloc o).grownBy w' (Value.ownBlock v)) (hB : B ≤ w.heap.size) : Below B w w' := by
  have a := (Below.refl B w).alloc hB o
  exact a.trans ⟨hg.os, hg.tape, hg.output, hg.size, fun k hk => hg.block k (by have := a.size; omega) (fun e => absurd (rowT h.row e.symm).2 (by omega))⟩
theorem ER.shape (h : ER w B v L) : ∃ g cap, v = .slice (some ⟨g, 0, none⟩) L.length cap ∧ B ≤ g ∧ g < w.heap.size ∧ L.length ≤ cap ∧ cap ≤ maxLen := by
  rcases h.row.2 with ⟨rfl, _⟩ | ⟨g, cap, cur, rfl, hb, hg, hc, hm, _⟩
  · exact absurd rfl h.nn
  · exact ⟨g, cap, rfl, hb, lt_of_heap hg, hc, hm⟩
theorem fstE_getD {L : EL} {i : Nat} (hi : i < L.length) : (L.map Prod.fst).getD i en0 = (L.getD i ez).1 := by
  rw [List.getD_eq_getElem?_getD, List.getD_eq_getElem?_getD, List.getElem?_map, List.getElem?_eq_getElem hi]; rfl
theorem ER.eno (h : ER w B v L) (hl : L.length ≤ 2000000) : EnO w B v (L.map Prod.fst) := by
  rcases h.row.2 with ⟨rfl, _⟩ | ⟨g, cap, cur, rfl, hb, hg, hc, hm, hs, ht⟩
  · exact absurd rfl h.nn
  · refine ⟨g, cap, cur, _, by rw [List.length_map], hb, hg, by rw [List.length_map]; exact hc, by rw [List.length_map]; exact hl, fun i hi => ?_⟩
    rw [List.length_map] at hi
    rw [fstE_getD hi]
    have hx : L.getD i ez ∈ L := by rw [List.getD_eq_getElem?_getD, List.getElem?_eq_getElem hi]; exact List.getElem_mem hi
    have hk : ∀ j, j < 9 → cur[i * 9 + j]? = (ecell (L.getD i ez))[j]? := fun j hj => by
      rw [← flatE_get L i j hi hj, ← ht, List.getElem?_take, if_pos (by omega)]; simp
    obtain ⟨b, h1, h2, h3⟩ := h.deps _ hx
    exact ⟨b, _, h1, fun e => h2 (by rw [e]; rfl), hk, h3⟩
end
theorem nine_srcE (w : World) (t : TypeId) (x0 x1 x2 x3 x4 x5 x6 x7 x8 : Value) (n : Nat) (hn : n = w.heap.size) : ∀ j v, [x0, x1, x2, x3, x4, x5, x6, x7, x8][j]? = some v → (w.alloc (.cells #[x0, x1, x2, x3, x4, x5, x6, x7, x8] t)).cell? ((⟨n, 0, none⟩ : Addr).add j) = some v := by
  subst hn
  intro j v hj
  have h := heap_alloc_new w (.cells #[x0, x1, x2, x3, x4, x5, x6, x7, x8] t)
  rw [Addr.add_lit, Nat.zero_add, cell_of_cells h]
  simpa using hj
theorem nine_oneE (x0 x1 x2 x3 x4 x5 x6 x7 : Int) (a : Option Addr) (n c : Nat) : ∀ u ∈ [Value.int .i64 x0, .int .i64 x1, .int .i64 x2, .int .i64 x3, .int .i64 x4, .int .i64 x5, .int .i64 x6, .int .i64 x7, .slice a n c], u.oneCell' = true := by
  intro u hu
  simp at hu
  rcases hu with rfl | rfl | rfl | rfl | rfl | rfl | rfl | rfl | rfl <;> rfl
end Go.Proofs.Ytfcjhojkfchccaa

/- The model's l11Copy. -/
namespace Go.Proofs.Ytfcjhojkfchccaa
open Go.RowKit
set_option linter.unusedVariables false

theorem en_resC (tm : Array Value) (w : World) (b : Nat) (x0 x1 x2 x3 x4 x5 x6 x7 x8 : Value) (t : TypeId) (h2 : tm[2]? = some (.pointer (some ⟨b, 0, none⟩))) (h : w.heap[b]? = some (.cells #[x0, x1, x2, x3, x4, x5, x6, x7, x8] t (0, 0))) :
    (results Try.f37 tm).run Try.prog w = .ok (.agg #[x0, x1, x2, x3, x4, x5, x6, x7, x8]) w := by
  obtain ⟨t0, t1, t2, t3, t4, t5, t6, t7, t8⟩ := nine_cells h
  simp [results, Try.results37, go_sem, h2, t0, t1, t2, t3, t4, t5, t6, t7, t8]
theorem three_a (w : World) (o1 o2 o3 : Obj) : (((w.alloc o1).alloc o2).alloc o3).heap[w.heap.size]? = some o1 :=
  (Below.heap_alloc _ _ w.heap.size (by simp; omega)).trans ((Below.heap_alloc _ _ w.heap.size (by simp)).trans (heap_alloc_new w o1))
theorem three_b (w : World) (o1 o2 o3 : Obj) : (((w.alloc o1).alloc o2).alloc o3).heap[w.heap.size + 1]? = some o2 :=
  (Below.heap_alloc _ _ (w.heap.size + 1) (by simp)).trans (heap_alloc_at (w.alloc o1) o2 (w.heap.size + 1) (by simp))
theorem row_same {w w' : World} {B C : Nat} {v : Value} {O : List Pid} (h : Row w B v O) (hC : C ≤ B) (hs : ∀ k, B ≤ k → w'.heap[k]? = w.heap[k]?) : Row w' C v O := by
  obtain ⟨⟨h1, h2⟩, h3⟩ := h
  refine ⟨⟨h1, ?_⟩, h3⟩
  rcases h2 with hn | ⟨g, cap, cur, rfl, hb, hg, rest⟩
  · exact .inl hn
  · exact .inr ⟨g, cap, cur, rfl, Nat.le_trans hC hb, (hs g hb).trans hg, rest⟩
theorem flatc_src {w : World} {b off : Nat} {C : List Pid} (h : ∀ i, i < C.length → w.cell? ⟨b, off + i * 2, none⟩ = some (.int .i64 (C.getD i nop).1) ∧ w.cell? ⟨b, off + i * 2 + 1, none⟩ = some (.int .i64 (C.getD i nop).2)) :
    ∀ j u, (flatP C)[j]? = some u → w.cell? (Addr.add ⟨b, off, none⟩ j) = some u := by
  intro j u hj
  have hl : j < C.length * 2 := by
    have := (List.getElem?_eq_some_iff.1 hj).1
    rw [flatP_len] at this; exact this
  have hk : j / 2 < C.length := by omega
  obtain ⟨g0, g1⟩ := flatP_get C (j / 2) hk
  obtain ⟨c0, c1⟩ := h (j / 2) hk
  have ha : (⟨b, off, none⟩ : Addr).add j = ⟨b, off + j, none⟩ := by simp [Addr.add]
  rw [ha]
  rcases (show j = j / 2 * 2 ∨ j = j / 2 * 2 + 1 by omega) with e | e
  · rw [← e] at g0 c0
    rw [hj] at g0
    rw [g0]; exact c0
  · rw [← e] at g1
    rw [hj] at g1
    rw [Nat.add_assoc, ← e] at c1
    rw [g1]; exact c1

set_option maxRecDepth 100000 in
set_option maxHeartbeats 2000000 in
/-- A copy of an entry: its list lies in a row of its own, behind what was there. -/
theorem copy_at (p q bal st k key v seq : Int) (D : List Pid) (u : Value) (w : World) (h : Ids w u D) :
    Calls Try.prog 37 #[.agg #[.int .i64 p, .int .i64 q, .int .i64 bal, .int .i64 st, .int .i64 k, .int .i64 key, .int .i64 v, .int .i64 seq, u]] w fun r w' => (∃ u', r = .returned (.agg #[.int .i64 p, .int .i64 q, .int .i64 bal, .int .i64 st, .int .i64 k, .int .i64 key, .int .i64 v, .int .i64 seq, u']) ∧ Row w' w.heap.size u' D) ∧ Below w.heap.size w w' := by
  obtain ⟨i0, hi, hz0, hz1, hz2⟩ := info_parts infoP
  obtain ⟨a, cap, rfl, hc, hm, h⟩ := h
  go_enter Try.func37, Try.ntmps37
  rcases a with _ | ⟨b, off, sub⟩
  · obtain rfl : D = [] := by
      rcases h with h | ⟨_, _, h, _⟩
      · exact List.length_eq_zero_iff.1 h
      · cases h
    clear h hc hm
    have hR := row_new ((w.alloc (.cells #[.int .i64 p, .int .i64 q, .int .i64 bal, .int .i64 st, .int .i64 k, .int .i64 key, .int .i64 v, .int .i64 seq, .slice (some ⟨w.heap.size + 1 + 1, 0, none⟩) 0 0] 29)).alloc (.cells #[.int .i64 p, .int .i64 q, .int .i64 bal, .int .i64 st, .int .i64 k, .int .i64 key, .int .i64 v, .int .i64 seq, .slice (some ⟨w.heap.size + 1 + 1, 0, none⟩) 0 0] 29)) w.heap.size (by simp; omega)
    have B0 : Below w.heap.size w (((w.alloc (.cells #[.int .i64 p, .int .i64 q, .int .i64 bal, .int .i64 st, .int .i64 k, .int .i64 key, .int .i64 v, .int .i64 seq, .slice (some ⟨w.heap.size + 1 + 1, 0, none⟩) 0 0] 29)).alloc (.cells #[.int .i64 p, .int .i64 q, .int .i64 bal, .int .i64 st, .int .i64 k, .int .i64 key, .int .i64 v, .int .i64 seq, .slice (some ⟨w.heap.size + 1 + 1, 0, none⟩) 0 0] 29)).alloc (.cells #[] 24)) := (((Below.refl _ _).alloc (Nat.le_refl _) _).alloc (by simp) _).alloc (by simp; omega) _
    have e0 : ((w.alloc (.cells #[.int .i64 p, .int .i64 q, .int .i64 bal, .int .i64 st, .int .i64 k, .int .i64 key, .int .i64 v, .int .i64 seq, .slice (some ⟨w.heap.size + 1 + 1, 0, none⟩) 0 0] 29)).alloc (.cells #[.int .i64 p, .int .i64 q, .int .i64 bal, .int .i64 st, .int .i64 k, .int .i64 key, .int .i64 v, .int .i64 seq, .slice (some ⟨w.heap.size + 1 + 1, 0, none⟩) 0 0] 29)).heap.size = w.heap.size + 1 + 1 := by simp
    have hA : (((w.alloc (.cells #[.int .i64 p, .int .i64 q, .int .i64 bal, .int .i64 st, .int .i64 k, .int .i64 key, .int .i64 v, .int .i64 seq, .slice (some ⟨w.heap.size + 1 + 1, 0, none⟩) 0 0] 29)).alloc (.cells #[.int .i64 p, .int .i64 q, .int .i64 bal, .int .i64 st, .int .i64 k, .int .i64 key, .int .i64 v, .int .i64 seq, .slice (some ⟨w.heap.size + 1 + 1, 0, none⟩) 0 0] 29)).alloc (.cells #[] 24)).heap[w.heap.size + 1]? = some (.cells #[.int .i64 p, .int .i64 q, .int .i64 bal, .int .i64 st, .int .i64 k, .int .i64 key, .int .i64 v, .int .i64 seq, .slice (some ⟨w.heap.size + 1 + 1, 0, none⟩) 0 0] 29 (0, 0)) := three_b _ _ _ _
    rw [e0] at hR
    have hR := Lib.hid hR
    have B0 := Lib.hid B0
    have hA := Lib.hid hA
    clear e0
    go_wp2_with fail
    exact bodyPost_ret (en_resC _ _ _ _ _ _ _ _ _ _ _ _ _ rfl hA.out) rfl ⟨⟨_, rfl, hR.out⟩, B0.out⟩
  · have hs : ∀ j u, (flatP D)[j]? = some u → b < w.heap.size ∧ w.cell? (Addr.add ⟨b, off, sub⟩ j) = some u := by
      rcases h with h | ⟨b', off', e, hb, h⟩
      · obtain rfl := List.length_eq_zero_iff.1 h
        intro j u hj
        simp [flatP] at hj
      · cases e
        exact fun j u hj => ⟨hb, flatc_src h j u hj⟩
    have hs := Lib.hid hs
    obtain ⟨n, hn⟩ : ∃ n, Hid (D.length = n) := ⟨_, Lib.hid rfl⟩
    rw [hn.out] at hc hm ⊢
    clear h
    have hR := row_new ((w.alloc (.cells #[.int .i64 p, .int .i64 q, .int .i64 bal, .int .i64 st, .int .i64 k, .int .i64 key, .int .i64 v, .int .i64 seq, .slice (some ⟨b, off, sub⟩) n cap] 29)).alloc (.cells #[.int .i64 0, .int .i64 0, .int .i64 0, .int .i64 0, .int .i64 0, .int .i64 0, .int .i64 0, .int .i64 0, .slice none 0 0] 29)) (w.heap.size + 1 + 1) (by simp)
    have e0 : ((w.alloc (.cells #[.int .i64 p, .int .i64 q, .int .i64 bal, .int .i64 st, .int .i64 k, .int .i64 key, .int .i64 v, .int .i64 seq, .slice (some ⟨b, off, sub⟩) n cap] 29)).alloc (.cells #[.int .i64 0, .int .i64 0, .int .i64 0, .int .i64 0, .int .i64 0, .int .i64 0, .int .i64 0, .int .i64 0, .slice none 0 0] 29)).heap.size = w.heap.size + 1 + 1 := by simp
    rw [e0] at hR
    have hR := Lib.hid hR
    have B0 := Lib.hid (show Below w.heap.size w (((w.alloc (.cells #[.int .i64 p, .int .i64 q, .int .i64 bal, .int .i64 st, .int .i64 k, .int .i64 key, .int .i64 v, .int .i64 seq, .slice (some ⟨b, off, sub⟩) n cap] 29)).alloc (.cells #[.int .i64 0, .int .i64 0, .int .i64 0, .int .i64 0, .int .i64 0, .int .i64 0, .int .i64 0, .int .i64 0, .slice none 0 0] 29)).alloc (.cells #[] 24)) from (((Below.refl _ _).alloc (Nat.le_refl _) _).alloc (by simp) _).alloc (by simp; omega) _)
    have A0 := Lib.hid (show (((w.alloc (.cells #[.int .i64 p, .int .i64 q, .int .i64 bal, .int .i64 st, .int .i64 k, .int .i64 key, .int .i64 v, .int .i64 seq, .slice (some ⟨b, off, sub⟩) n cap] 29)).alloc (.cells #[.int .i64 0, .int .i64 0, .int .i64 0, .int .i64 0, .int .i64 0, .int .i64 0, .int .i64 0, .int .i64 0, .slice none 0 0] 29)).alloc (.cells #[] 24)).heap[w.heap.size]? = some (.cells #[.int .i64 p, .int .i64 q, .int .i64 bal, .int .i64 st, .int .i64 k, .int .i64 key, .int .i64 v, .int .i64 seq, .slice (some ⟨b, off, sub⟩) n cap] 29 (0, 0)) from three_a _ _ _ _)
    have A1 := Lib.hid (show (((w.alloc (.cells #[.int .i64 p, .int .i64 q, .int .i64 bal, .int .i64 st, .int .i64 k, .int .i64 key, .int .i64 v, .int .i64 seq, .slice (some ⟨b, off, sub⟩) n cap] 29)).alloc (.cells #[.int .i64 0, .int .i64 0, .int .i64 0, .int .i64 0, .int .i64 0, .int .i64 0, .int .i64 0, .int .i64 0, .slice none 0 0] 29)).alloc (.cells #[] 24)).heap[w.heap.size + 1]? = some (.cells #[.int .i64 0, .int .i64 0, .int .i64 0, .int .i64 0, .int .i64 0, .int .i64 0, .int .i64 0, .int .i64 0, .slice none 0 0] 29 (0, 0)) from three_b _ _ _ _)
    clear e0
    go_wp2_with (at_builtin; go_loud (refine wpList_append_own_at _ rfl _ _ 27 rfl (w.heap.size + 1 + 1) 24 i0 (.agg #[.int .i64 0, .int .i64 0]) 2 16 Try.underlying27 hi hz0 hz1 hz2 rfl (by decide) _ _ _ rfl hR.out.1 ⟨b, off, sub⟩ n cap (flatP D) rfl ?gc0 ?gc1 ?gc2 ?gc3 ?gc4 ?gc5 ?_))
    case gc0 => rw [flatP_len, hn.out]
    case gc1 =>
      intro j u hj
      obtain ⟨hb, e⟩ := hs.out j u hj
      exact (B0.out.cell (p := Addr.add ⟨b, off, sub⟩ j) (by simp only [Addr.add]; split <;> exact hb)).trans e
    case gc2 => exact flatP_one _
    case gc3 => show (0 : Nat) + n ≤ maxLen; unfold maxLen; omega
    case gc4 => show ((0 : Nat) + n) * 16 ≤ _; omega
    case gc5 => simp
    intro v5 w5 hown' hgrow hnil hat
    have R5 : Row w5 (w.heap.size + 1 + 1) v5 D := ⟨by rw [hn.out]; simpa [flatP] using hown', fun e => hnil e⟩
    obtain ⟨g5, c5, rfl, hg1, hg2, _, _⟩ := R5.shape
    have b5 := grown_below hR.out hgrow (by simp)
    have o0 := Lib.hid ((b5.block w.heap.size (by omega)).trans A0.out)
    have o1 := Lib.hid ((b5.block (w.heap.size + 1) (by omega)).trans A1.out)
    have B5 := Lib.hid (B0.out.trans (b5.mono (by omega)))
    have R5 := Lib.hid R5
    clear hown' hgrow hnil hat b5 B0 A0 A1 hR hs hg1 hg2
    obtain ⟨⟨x0, x1, x2, x3, x4, x5, x6, x7, x8⟩, ⟨f0, f1, f2, f3, f4, f5, f6, f7, f8⟩, s0⟩ := nine_all o0.out
    obtain ⟨⟨y0, y1, y2, y3, y4, y5, y6, y7, y8⟩, ⟨g0, g1, g2, g3, g4, g5', g6, g7, g8⟩, s1⟩ := nine_all o1.out
    go_wp2_with fail
    have o8 := (heap_setCell_other w5 ⟨w.heap.size, 8, none⟩ (w.heap.size + 1) (.slice (some ⟨g5, 0, none⟩) D.length c5) (by first | (simp; done) | (simp; omega))).trans o1.out
    refine bodyPost_ret (en_resC _ _ _ _ _ _ _ _ _ _ _ _ _ rfl (put9_at (.int .i64 p) (.int .i64 q) (.int .i64 bal) (.int .i64 st) (.int .i64 k) (.int .i64 key) (.int .i64 v) (.int .i64 seq) (.slice (some ⟨g5, 0, none⟩) D.length c5) o8)) rfl ⟨⟨_, rfl, row_same R5.out (by omega) fun j hj => ?_⟩, ?_⟩
    · rw [put9_other _ _ _ _ _ _ _ _ _ (by omega : j ≠ w.heap.size + 1), heap_setCell_other _ _ _ _ (by show j ≠ w.heap.size; omega)]
    · exact (B5.out.setCell (p := ⟨w.heap.size, 8, none⟩) (Nat.le_refl _) _).trans (put9_below _ _ _ _ _ _ _ _ _ (Nat.le_succ _))
end Go.Proofs.Ytfcjhojkfchccaa
