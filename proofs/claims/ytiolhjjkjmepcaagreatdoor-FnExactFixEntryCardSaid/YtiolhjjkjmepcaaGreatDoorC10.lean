/- Texts laid together. -/
import Derived.Test.YtiolhjjkjmepcaaGreatDoorC01
import Derived.Deep.RegionWith
import Derived.Test.YtiolhjjkjmepcaaGreatDoorC11
import Derived.Test.YtiolhjjkjmepcaaGreatDoorC09
import Derived.RangeFuncStops
import Derived.RangeFuncFrom
import Derived.Maps.AppendAt
/- Ids made in a row: plain facts. -/
namespace Go.Proofs.YtiolhjjkjmepcaaGreatDoor
open Go.RowKit
set_option linter.unusedVariables false

theorem madeP (n j : Nat) (h : j < n * 2) : (madeCells #[.int .i64 0, .int .i64 0] (n * 2))[j]? = some (.int .i64 0) := by
  unfold madeCells
  rw [Array.getElem?_map, Array.getElem?_range]
  rw [if_pos h]
  have : j % 2 = 0 ∨ j % 2 = 1 := by omega
  rcases this with e | e <;> simp [e]

theorem repP_get (n i : Nat) : (List.replicate n nop).getD i nop = nop := by
  rw [List.getD_eq_getElem?_getD, List.getElem?_replicate]
  split <;> rfl

theorem ownP_made (w : World) (n : Nat) (hn : n ≤ 2000000) (t : TypeId) : OwnP (w.alloc (.cells (madeCells #[.int .i64 0, .int .i64 0] (n * 2)) t)) w.heap.size (.slice (some ⟨w.heap.size, 0, none⟩) n n) (List.replicate n nop) := by
  refine ⟨n, _, t, by simp, heap_alloc_new w _, by simp, by simpa using hn, fun i hi => ?_⟩
  rw [List.length_replicate] at hi
  rw [madeP n _ (by omega), madeP n _ (by omega), repP_get]
  exact ⟨rfl, rfl⟩

theorem info_id : (Tryz.prog.info? 25).map (fun i => (i.zero, i.size, i.bytes)) = some (some (.agg #[.int .i64 0, .int .i64 0]), 2, 16) := by kernel_rfl

theorem made_ids (n : Nat) (hn : n ≤ 2000000) (w : World) : (Instr.makeSlice 28 (.int .i64 n) (.int .i64 n)).run Tryz.prog w = .ok (.slice (some ⟨w.heap.size, 0, none⟩) n n) (w.alloc (.cells (madeCells #[.int .i64 0, .int .i64 0] (n * 2)) 25)) := by
  obtain ⟨i, hi, hz, hs, hb⟩ := info_parts info_id
  have hr := run_make (P := Tryz.prog) w 28 25 i _ Tryz.underlying28 hi hz .i64 .i64 n n (by omega) (Int.le_refl _) (by rw [hb]; omega) (by omega)
  simp only [Int.toNat_natCast, hs] at hr
  exact hr

theorem id_same {A B : List Pid} (hl : A.length = B.length) (h : ∀ j, j < A.length → A.getD j nop = B.getD j nop) : A = B := by
  apply List.ext_getElem hl
  intro i h1 h2
  have := h i h1
  rw [List.getD_eq_getElem?_getD, List.getD_eq_getElem?_getD, List.getElem?_eq_getElem h1, List.getElem?_eq_getElem h2] at this
  simpa using this
theorem id_up {M C : List Pid} {k : Nat} (hM : k < M.length) (h : ∀ j, j < k → M.getD j nop = C.getD j nop) : ∀ j, j < k + 1 → (M.set k (C.getD k nop)).getD j nop = C.getD j nop := by
  intro j hj
  by_cases e : j = k
  · subst e; rw [List.getD_eq_getElem?_getD, List.getElem?_set_self hM]; rfl
  · rw [List.getD_eq_getElem?_getD, List.getElem?_set_ne (fun x => e x.symm), ← List.getD_eq_getElem?_getD]; exact h j (by omega)
end Go.Proofs.YtiolhjjkjmepcaaGreatDoor

/- The laws' copies of slices of entries. -/
namespace Go.Proofs.YtiolhjjkjmepcaaGreatDoor
open Go.RowKit
set_option linter.unusedVariables false

/-- The cells of one entry in a row. -/
def EnC (cur : Array Value) (i : Nat) (e : En) (u : Value) : Prop := ∀ j, j < 9 → cur[i * 9 + j]? = (enc9 e u)[j]?
/-- A slice of entries in a block of its own, with lists in blocks of their own, all from B on. -/
def EnO (w : World) (B : Nat) (v : Value) (E : List En) : Prop :=
  ∃ g cap cur t, v = .slice (some ⟨g, 0, none⟩) E.length cap ∧ B ≤ g ∧ w.heap[g]? = some (.cells cur t (0, 0)) ∧ E.length ≤ cap ∧ E.length ≤ 2000000 ∧
    ∀ i, i < E.length → ∃ b u, B ≤ b ∧ b ≠ g ∧ EnC cur i (E.getD i en0) u ∧ OwnP w b u (E.getD i en0).deps
theorem enc_at {w : World} {g : Nat} {cur : Array Value} {t : TypeId} {i : Nat} {e : En} {u : Value} (hg : w.heap[g]? = some (.cells cur t (0, 0))) (hc : EnC cur i e u) (hI : Ids w u e.deps) : EnAt w g (0 + i * 9) e u := by
  have c := fun j hj => hc j hj
  rw [Nat.zero_add]
  refine ⟨?_, ?_, ?_, ?_, ?_, ?_, ?_, ?_, ?_, hI⟩ <;> rw [cell_of_cells hg]
  · exact c 0 (by omega)
  · exact c 1 (by omega)
  · exact c 2 (by omega)
  · exact c 3 (by omega)
  · exact c 4 (by omega)
  · exact c 5 (by omega)
  · exact c 6 (by omega)
  · exact c 7 (by omega)
  · exact c 8 (by omega)
theorem EnO.read {w : World} {B : Nat} {v : Value} {E : List En} (h : EnO w B v E) : Ens w v E := by
  obtain ⟨g, cap, cur, t, rfl, _, hg, h1, h2, h3⟩ := h
  have h' : ∀ i, ∃ u, i < E.length → EnC cur i (E.getD i en0) u ∧ Ids w u (E.getD i en0).deps := fun i => by
    by_cases hi : i < E.length
    · obtain ⟨b, u, _, _, hc, hO⟩ := h3 i hi
      exact ⟨u, fun _ => ⟨hc, hO.read⟩⟩
    · exact ⟨.slice none 0 0, fun hh => absurd hh hi⟩
  refine ⟨_, cap, rfl, h1, h2, .inr ⟨g, 0, fun i => Classical.choose (h' i), rfl, lt_of_heap hg, fun i hi => ?_⟩⟩
  obtain ⟨hc, hI⟩ := Classical.choose_spec (h' i) hi
  exact enc_at hg hc hI
theorem EnO.up {w w' : World} {B : Nat} {v : Value} {E : List En} (h : EnO w B v E) (hb : Below w.heap.size w w') : EnO w' B v E := by
  obtain ⟨g, cap, cur, t, rfl, h0, hg, h1, h2, h3⟩ := h
  refine ⟨g, cap, cur, t, rfl, h0, (hb.block g (lt_of_heap hg)).trans hg, h1, h2, fun i hi => ?_⟩
  obtain ⟨b, u, q1, q2, hc, ho⟩ := h3 i hi
  exact ⟨b, u, q1, q2, hc, ho.up hb ho.lt⟩

theorem info_en : (Tryz.prog.info? 30).map (fun i => (i.zero, i.size, i.bytes)) = some (some (.agg #[.int .i64 0, .int .i64 0, .int .i64 0, .int .i64 0, .int .i64 0, .int .i64 0, .int .i64 0, .int .i64 0, .slice none 0 0]), 9, 88) := by kernel_rfl
theorem made_ens (n : Nat) (hn : n ≤ 2000000) (w : World) : (Instr.makeSlice 23 (.int .i64 n) (.int .i64 n)).run Tryz.prog w = .ok (.slice (some ⟨w.heap.size, 0, none⟩) n n) (w.alloc (.cells (madeCells #[.int .i64 0, .int .i64 0, .int .i64 0, .int .i64 0, .int .i64 0, .int .i64 0, .int .i64 0, .int .i64 0, .slice none 0 0] (n * 9)) 30)) := by
  obtain ⟨i, hi, hz, hs, hb⟩ := info_parts info_en
  have hr := run_make (P := Tryz.prog) w 23 30 i _ Tryz.underlying23 hi hz .i64 .i64 n n (by omega) (Int.le_refl _) (by rw [hb]; omega) (by omega)
  simp only [Int.toNat_natCast, hs] at hr
  exact hr

/-- Copies so far. -/
def EnK (w : World) (B g n k : Nat) (E : List En) : Prop :=
  ∃ cur t, w.heap[g]? = some (.cells cur t (0, 0)) ∧ cur.size = n * 9 ∧ ∀ i, i < k → ∃ b u, B ≤ b ∧ b ≠ g ∧ EnC cur i (E.getD i en0) u ∧ OwnP w b u (E.getD i en0).deps
theorem EnK.lt {w : World} {B g n k : Nat} {E : List En} (h : EnK w B g n k E) : g < w.heap.size := by obtain ⟨cur, t, h, _⟩ := h; exact lt_of_heap h
theorem EnK.up {w w' : World} {B g n k : Nat} {E : List En} (h : EnK w B g n k E) (hb : Below w.heap.size w w') : EnK w' B g n k E := by
  obtain ⟨cur, t, h1, h2, h3⟩ := h
  refine ⟨cur, t, (hb.block g (lt_of_heap h1)).trans h1, h2, fun i hi => ?_⟩
  obtain ⟨b, u, q1, q2, hc, ho⟩ := h3 i hi
  exact ⟨b, u, q1, q2, hc, ho.up hb ho.lt⟩
theorem EnK.old {w : World} {B g n k : Nat} {E : List En} (h : EnK w B g n k E) {j : Nat} (hj : j < n * 9) : (∃ y, w.cell? ⟨g, j, none⟩ = some y) ∧ w.frozen? ⟨g, j, none⟩ = false := by
  obtain ⟨cur, t, h1, h2, _⟩ := h
  exact ⟨⟨cur[j]'(by omega), by rw [cell_of_cells h1]; simp [show j < cur.size by omega]⟩, by simp [World.frozen?, h1]⟩
theorem EnK.put {w : World} {B g n k : Nat} {E : List En} (h : EnK w B g n k E) (hk : k < n) {b : Nat} {u : Value} {e : En} (he : E.getD k en0 = e) (hB : B ≤ b) (hbg : b ≠ g) (ho : OwnP w b u e.deps) :
    EnK (((((((((w.setCell ⟨g, k * 9, none⟩ (.int .i64 e.id.1)).setCell ⟨g, k * 9 + 1, none⟩ (.int .i64 e.id.2)).setCell ⟨g, k * 9 + 2, none⟩ (.int .i64 e.bal)).setCell ⟨g, k * 9 + 3, none⟩ (.int .i64 e.st)).setCell ⟨g, k * 9 + 4, none⟩ (.int .i64 e.k)).setCell ⟨g, k * 9 + 5, none⟩ (.int .i64 e.key)).setCell ⟨g, k * 9 + 6, none⟩ (.int .i64 e.v)).setCell ⟨g, k * 9 + 7, none⟩ (.int .i64 e.seq)).setCell ⟨g, k * 9 + 8, none⟩ (u)) B g n (k + 1) E := by
  obtain ⟨cur, t, h1, h2, h3⟩ := h
  have oth : ∀ c, c ≠ g → (((((((((w.setCell ⟨g, k * 9, none⟩ (.int .i64 e.id.1)).setCell ⟨g, k * 9 + 1, none⟩ (.int .i64 e.id.2)).setCell ⟨g, k * 9 + 2, none⟩ (.int .i64 e.bal)).setCell ⟨g, k * 9 + 3, none⟩ (.int .i64 e.st)).setCell ⟨g, k * 9 + 4, none⟩ (.int .i64 e.k)).setCell ⟨g, k * 9 + 5, none⟩ (.int .i64 e.key)).setCell ⟨g, k * 9 + 6, none⟩ (.int .i64 e.v)).setCell ⟨g, k * 9 + 7, none⟩ (.int .i64 e.seq)).setCell ⟨g, k * 9 + 8, none⟩ (u)).heap[c]? = w.heap[c]? := fun c hc => by
    rw [heap_setCell_other _ _ _ _ hc, heap_setCell_other _ _ _ _ hc, heap_setCell_other _ _ _ _ hc, heap_setCell_other _ _ _ _ hc, heap_setCell_other _ _ _ _ hc, heap_setCell_other _ _ _ _ hc, heap_setCell_other _ _ _ _ hc, heap_setCell_other _ _ _ _ hc, heap_setCell_other _ _ _ _ hc]
  have e0 := heap_setCell_same _ g (k * 9 + 8) _ _ (u) (heap_setCell_same _ g (k * 9 + 7) _ _ (.int .i64 e.seq) (heap_setCell_same _ g (k * 9 + 6) _ _ (.int .i64 e.v) (heap_setCell_same _ g (k * 9 + 5) _ _ (.int .i64 e.key) (heap_setCell_same _ g (k * 9 + 4) _ _ (.int .i64 e.k) (heap_setCell_same _ g (k * 9 + 3) _ _ (.int .i64 e.st) (heap_setCell_same _ g (k * 9 + 2) _ _ (.int .i64 e.bal) (heap_setCell_same _ g (k * 9 + 1) _ _ (.int .i64 e.id.2) (heap_setCell_same _ g (k * 9) _ _ (.int .i64 e.id.1) (h1)))))))))
  refine ⟨_, t, e0, by simpa using h2, fun i hi => ?_⟩
  rcases Nat.lt_or_ge i k with hlt | hge
  · obtain ⟨b', u', q1, q2, hc, hO⟩ := h3 i hlt
    refine ⟨b', u', q1, q2, fun j hj => ?_, hO.same (oth b' q2)⟩
    rw [← hc j hj]
    repeat rw [Array.getElem?_setIfInBounds_ne (by omega)]
  · obtain rfl : i = k := by omega
    rw [he]
    refine ⟨b, u, hB, hbg, fun j hj => ?_, ho.same (oth b hbg)⟩
    have hsz : i * 9 + 8 < cur.size := by omega
    rcases (show j = 0 ∨ j = 1 ∨ j = 2 ∨ j = 3 ∨ j = 4 ∨ j = 5 ∨ j = 6 ∨ j = 7 ∨ j = 8 by omega) with rfl | rfl | rfl | rfl | rfl | rfl | rfl | rfl | rfl <;> simp [Array.getElem?_setIfInBounds, enc9] <;> omega
theorem enK_made (w : World) (n : Nat) (E : List En) (t : TypeId) : EnK (w.alloc (.cells (madeCells #[.int .i64 0, .int .i64 0, .int .i64 0, .int .i64 0, .int .i64 0, .int .i64 0, .int .i64 0, .int .i64 0, .slice none 0 0] (n * 9)) t)) w.heap.size w.heap.size n 0 E :=
  ⟨_, t, heap_alloc_new w _, by simp [madeCells], fun i hi => absurd hi (Nat.not_lt_zero _)⟩
end Go.Proofs.YtiolhjjkjmepcaaGreatDoor

/- The model's l3Put. -/
namespace Go.Proofs.YtiolhjjkjmepcaaGreatDoor
open Go.RowKit
set_option linter.unusedVariables false

theorem infoP : (Tryz.prog.info? 25).map (fun i => (i.zero, i.size, i.bytes)) = some (some (.agg #[.int .i64 0, .int .i64 0]), 2, 16) := by kernel_rfl

/-- A slice of ids that is being built: in memory from B on, in a block of its own. -/
def Row (w : World) (B : Nat) (v : Value) (O : List Pid) : Prop := w.ownsRow B 25 2 v O.length (flatP O) ∧ v ≠ .slice none 0 0

theorem row_new (w : World) (B : Nat) (hB : B ≤ w.heap.size) : Row (w.alloc (.cells #[] 25)) B (.slice (some ⟨w.heap.size, 0, none⟩) 0 0) [] :=
  ⟨World.ownsRow_made _ #[] 0 hB (Nat.zero_le _) rfl, by simp⟩
theorem Row.shape {w : World} {B : Nat} {v : Value} {O : List Pid} (h : Row w B v O) : ∃ g cap, v = .slice (some ⟨g, 0, none⟩) O.length cap ∧ B ≤ g ∧ g < w.heap.size ∧ O.length ≤ cap ∧ cap ≤ maxLen := by
  rcases h.1.2 with ⟨rfl, _⟩ | ⟨g, cap, cur, rfl, h1, h2, h3, h4, h5, h6⟩
  · exact absurd rfl h.2
  · exact ⟨g, cap, rfl, h1, lt_of_heap h2, h3, h4⟩
theorem Row.own {w : World} {B : Nat} {v : Value} {O : List Pid} (h : Row w B v O) (hl : O.length ≤ 2000000) : ∃ b, B ≤ b ∧ OwnP w b v O := OwnP.of_row h.1 rfl hl h.2
/-- Other memory may turn. -/
theorem Row.up {w w' : World} {B : Nat} {v : Value} {O : List Pid} (h : Row w B v O) (hb : Below w.heap.size w w') : Row w' B v O := by
  refine ⟨?_, h.2⟩
  refine ⟨h.1.1, ?_⟩
  rcases h.1.2 with h1 | ⟨g, cap, cur, e, h1, h2, h3⟩
  · exact .inl h1
  · exact .inr ⟨g, cap, cur, e, h1, (hb.block g (lt_of_heap h2)).trans h2, h3⟩
theorem Row.put {w w' : World} {B : Nat} {v v' : Value} {O : List Pid} {x y : Int} (h : Row w B v O) (hown : w'.ownsRow B 25 2 v' (O.length + 1) (flatP O ++ [.int .i64 x, .int .i64 y])) (hn : v' ≠ .slice none 0 0) : Row w' B v' (O ++ [(x, y)]) :=
  ⟨by rw [flatP_app]; simpa [flatP, idv] using hown, hn⟩
/-- What an append leaves of elder memory. -/
theorem grown_below {w w' : World} {B : Nat} {v : Value} {O : List Pid} (h : Row w B v O) (hg : w.grownBy w' (Value.ownBlock v)) (hB : B ≤ w.heap.size) : Below B w w' := by
  obtain ⟨g, cap, rfl, h1, _⟩ := h.shape
  exact ⟨hg.os, hg.tape, hg.output, hg.size, fun k hk => hg.block k (by omega) (fun e => by simp [Value.ownBlock] at e; omega)⟩

/-- What is left of l3Put's loop. -/
theorem put_in {O L : List Pid} {a x : Pid} {k : Nat} (hk : k < L.length) (hx : L.getD k nop = x) (h : O ++ putF true a (L.drop k) = putP L a) : (O ++ [x]) ++ putF true a (L.drop (k + 1)) = putP L a := by
  rw [← h, drop_next hk, hx]; simp [putF]
theorem put_miss {O L : List Pid} {a x : Pid} {k : Nat} (hk : k < L.length) (hx : L.getD k nop = x) (hl : ltP a x = false) (h : O ++ putF false a (L.drop k) = putP L a) : (O ++ [x]) ++ putF false a (L.drop (k + 1)) = putP L a := by
  rw [← h, drop_next hk, hx, putF_miss hl]; simp
theorem put_hit {O L : List Pid} {a x : Pid} {k : Nat} (hk : k < L.length) (hx : L.getD k nop = x) (hl : ltP a x = true) (h : O ++ putF false a (L.drop k) = putP L a) : (O ++ [a] ++ [x]) ++ putF true a (L.drop (k + 1)) = putP L a := by
  rw [← h, drop_next hk, hx, putF_hit hl]; simp
theorem put_len {O L : List Pid} {a : Pid} {d : Bool} {k : Nat} (h : O ++ putF d a (L.drop k) = putP L a) : O.length ≤ L.length + 1 := by
  have := congrArg List.length h
  rw [List.length_append] at this
  have := (len_putP L a).2
  omega

theorem two_cells (w : World) (t : TypeId) (x y : Value) (n : Nat) (hn : n = w.heap.size) : ∀ j u, [x, y][j]? = some u → (w.alloc (.cells #[x, y] t)).cell? ((⟨n, 0, none⟩ : Addr).add j) = some u := by
  subst hn
  intro j u hj
  match j, hj with
  | 0, hj => simp at hj; subst hj; simp [Addr.add]
  | 1, hj => simp at hj; subst hj; simp [Addr.add]
  | j + 2, hj => simp at hj

theorem put_mid {w wc w4 : World} {v v' : Value} {O : List Pid} {x y p r : Int} {o : Obj} (D : Below w.heap.size w wc) (hA : wc.heap[w.heap.size]? = some (.cells #[.int .i64 x, .int .i64 y] 25 (0, 0))) (hR : Row wc (w.heap.size + 1) v O)
    (hown : w4.ownsRow (w.heap.size + 1) 25 2 v' (O.length + 1) (flatP O ++ [.int .i64 p, .int .i64 r])) (hg : (wc.alloc o).grownBy w4 (Value.ownBlock v)) (hn : v' ≠ .slice none 0 0) :
    Row w4 (w.heap.size + 1) v' (O ++ [(p, r)]) ∧ w4.heap[w.heap.size]? = some (.cells #[.int .i64 x, .int .i64 y] 25 (0, 0)) ∧ Below w.heap.size w w4 := by
  have hR1 : Row (wc.alloc o) (w.heap.size + 1) v O := hR.up ((Below.refl _ _).alloc (Nat.le_refl _) _)
  have hs := lt_of_heap hA
  have B4 := grown_below hR1 hg (by simp; omega)
  exact ⟨hR.put hown hn, (B4.block w.heap.size (by omega)).trans ((Below.heap_alloc _ _ _ hs).trans hA), (D.alloc D.size _).trans (B4.mono (by omega))⟩

/-- What l3Put leaves. -/
def PutPost (L : List Pid) (a : Pid) (w : World) (e : Ending) (w' : World) : Prop :=
  ∃ b u, w.heap.size ≤ b ∧ e = .returned u ∧ OwnP w' b u (putP L a) ∧ Below w.heap.size w w'

/-- The loop's relation: the box of the id lies at w's end. -/
def PutRel (L : List Pid) (x y : Int) (w : World) (k : Nat) (v : Value) (d : Bool) (wr : World) : Prop :=
  ∃ O : List Pid, Row wr (w.heap.size + 1) v O ∧ O ++ putF d (x, y) (L.drop k) = putP L (x, y) ∧ wr.heap[w.heap.size]? = some (.cells #[.int .i64 x, .int .i64 y] 25 (0, 0)) ∧ Below w.heap.size w wr

set_option maxRecDepth 100000 in
set_option maxHeartbeats 4000000 in
theorem sput_at (b off ca : Nat) (L : List Pid) (x y : Int) (w : World) (hb : b < w.heap.size) (hm : L.length ≤ 1900000) (h : ∀ i, i < L.length → w.cell? ⟨b, off + i * 2, none⟩ = some (.int .i64 (L.getD i nop).1) ∧ w.cell? ⟨b, off + i * 2 + 1, none⟩ = some (.int .i64 (L.getD i nop).2)) :
    Calls Tryz.prog 85 #[.slice (some ⟨b, off, none⟩) L.length ca, .agg #[.int .i64 x, .int .i64 y]] w (PutPost L (x, y) w) := by
  obtain ⟨i0, hi, hz0, hz1, hz2⟩ := info_parts infoP
  have sh := shas_at b off ca L x y
  have h := Lib.hid h
  obtain ⟨n, hn⟩ : ∃ n, Hid (L.length = n) := ⟨_, Lib.hid rfl⟩
  obtain ⟨d0, hd0⟩ : ∃ q, Hid (hasP L (x, y) = q) := ⟨_, Lib.hid rfl⟩
  rw [hn.out] at hm sh ⊢
  rw [hd0.out] at sh
  have R0 : Hid (Row ((w.alloc (.cells #[.int .i64 x, .int .i64 y] 25)).alloc (.cells #[] 25)) (w.heap.size + 1) (.slice (some ⟨w.heap.size + 1, 0, none⟩) 0 0) []) := Lib.hid (by have := row_new (w.alloc (.cells #[.int .i64 x, .int .i64 y] 25)) (w.heap.size + 1) (by simp); simpa using this)
  go_enter Tryz.func85, Tryz.ntmps85
  go_wp2_with fail
  refine (sh _ (by simp; omega) (by omega) (fun i hi' => ?_)).mono ?_
  · have D0 : Below w.heap.size w ((w.alloc (.cells #[.int .i64 x, .int .i64 y] 25)).alloc (.cells #[] 25)) := ((Below.refl _ _).alloc (Nat.le_refl _) _).alloc (by simp) _
    rw [D0.cell (p := ⟨b, off + i * 2, none⟩) hb, D0.cell (p := ⟨b, off + i * 2 + 1, none⟩) hb]
    exact h.out i (by rw [hn.out]; exact hi')
  rintro e w1 ⟨rfl, hb1⟩
  have R1 : Hid (PutRel L x y w 0 (.slice (some ⟨w.heap.size + 1, 0, none⟩) 0 0) d0 w1) := Lib.hid ⟨[], R0.out.up hb1, by rw [← hd0.out]; rfl, (hb1.block w.heap.size (by simp; omega)).trans ((Below.heap_alloc _ _ _ (by simp)).trans (heap_alloc_new w _)), (((Below.refl _ _).alloc (Nat.le_refl _) _).alloc (by simp) _).trans (hb1.mono (by simp; omega))⟩
  clear R0 hb1 sh hd0
  go_wp2_with fail
  go_loopw [5, 6, 7] (fun v d i wr => ∃ (k : Nat) (q : Bool), k ≤ n ∧ i = .int .i64 k ∧ d = .bool q ∧ PutRel L x y w k v q wr) (fun _ _ i _ => n - (intOf i).toNat)
  case atStart => exact ⟨0, d0, Nat.zero_le _, rfl, rfl, R1.out⟩
  case round =>
    obtain ⟨k, q, hk, rfl, rfl, O, hR, hE, hA, hnx⟩ := hrel
    clear R1
    have hOl := put_len hE
    rw [hn.out] at hOl
    have hR := Lib.hid hR
    have hE := Lib.hid hE
    obtain ⟨x0, x1, _, _⟩ := blk2 hA
    have hs := lt_of_heap hA
    have hA := Lib.hid hA
    by_cases hlt : k < n
    · obtain ⟨h0, h1⟩ := h.out k (by rw [hn.out]; exact hlt)
      have q0 := (hnx.cell (p := ⟨b, off + k * 2, none⟩) hb).trans h0
      have q1 := (hnx.cell (p := ⟨b, off + k * 2 + 1, none⟩) hb).trans h1
      clear h0 h1
      obtain ⟨c, hc⟩ : ∃ c, Hid (L.getD k nop = c) := ⟨_, Lib.hid rfl⟩
      rw [hc.out] at q0 q1
      obtain ⟨p, r⟩ := c
      dsimp only at q0 q1
      have hnx := Lib.hid hnx
      have q00 := Lib.hid (h.out k (by rw [hn.out]; exact hlt)).1
      have q01 := Lib.hid (h.out k (by rw [hn.out]; exact hlt)).2
      rw [hc.out] at q00 q01
      cases q
      · by_cases hlt2 : ltB x y p r = true
        · have sl := slt_any x y p r
          rw [hlt2] at sl
          have F := Lib.hid (put_hit (by rw [hn.out]; exact hlt) hc.out (show ltP (x, y) (p, r) = true from hlt2) hE.out)
          clear hlt2 h
          go_wp2_with fail
          go_region_with (go_at_call 64; (with_reducible refine (sl _).mono ?_); rintro e w2 ⟨rfl, B⟩; have D2 := Lib.hid (bstep (Below.drew hnx.out) B); have A2 := Lib.hid ((Below.block B _ hs).trans (show wr.drew.heap[w.heap.size]? = _ from hA.out)); have R2 := Lib.hid ((Row.up hR.out (Below.drew (Below.refl _ _))).up B); obtain ⟨x0, x1, _, _⟩ := blk2 A2.out; have q0 := cell_later B (show wr.drew.cell? _ = _ from q0); have q1 := cell_later B (show wr.drew.cell? _ = _ from q1); have hs := lt_of_heap A2.out; have sz := Below.size B; clear B hA hR hnx)
          all_goals
            go_wp2_with (at_builtin; refine wpList_append_own _ rfl _ _ 28 rfl (w.heap.size + 1) 25 i0 (.agg #[.int .i64 0, .int .i64 0]) 2 16 Tryz.underlying28 hi hz0 hz1 hz2 rfl (by decide) _ _ _ rfl (R2.out.1.alloc _) ⟨w2.heap.size, 0, none⟩ 1 1 [.int .i64 x, .int .i64 y] rfl rfl ?c1 ?c2 ?c3 ?c4 ?c5 ?_)
            case c1 => exact two_cells _ _ _ _ _ (by simp)
            case c2 => intro u hu; simp at hu; rcases hu with rfl | rfl <;> rfl
            case c3 => unfold maxLen; first | omega | (simp; omega)
            case c4 => first | omega | (simp; omega)
            case c5 => first | omega | (simp; omega)
            intro v3 w3 hown' hgrow hnil
            obtain ⟨R1, R2', R3⟩ := put_mid D2.out A2.out R2.out hown' hgrow (fun e => hnil e)
            have R4 := Lib.hid R1
            have A4 := Lib.hid R2'
            have D4 := Lib.hid R3
            have hb4 : Below w2.heap.size w2 w2 := Below.refl _ _
            have q0' : w3.cell? ⟨b, off + k * 2, none⟩ = some (.int .i64 p) := (Below.cell R3 (p := ⟨b, off + k * 2, none⟩) hb).trans q00.out
            have q1' : w3.cell? ⟨b, off + k * 2 + 1, none⟩ = some (.int .i64 r) := (Below.cell R3 (p := ⟨b, off + k * 2 + 1, none⟩) hb).trans q01.out
            obtain ⟨x0', x1', _, _⟩ := blk2 A4.out
            have hs' := lt_of_heap A4.out
            have hOl' : (O ++ [(x, y)]).length ≤ 1900002 := by simp; omega
            clear hown' hgrow hnil R1 R2' R3 hb4 q0 q1 x0 x1 D2 A2 R2
            obtain ⟨O2, hO2⟩ : ∃ O2, O ++ [(x, y)] = O2 := ⟨_, rfl⟩
            rw [hO2] at R4 F hOl'
            clear hO2
            go_wp2_with (at_builtin; refine wpList_append_own _ rfl _ _ 28 rfl (w.heap.size + 1) 25 i0 (.agg #[.int .i64 0, .int .i64 0]) 2 16 Tryz.underlying28 hi hz0 hz1 hz2 rfl (by decide) _ _ _ rfl (R4.out.1.alloc _) ⟨w3.heap.size, 0, none⟩ 1 1 [.int .i64 p, .int .i64 r] rfl rfl ?c1 ?c2 ?c3 ?c4 ?c5 ?_)
            case c1 => exact two_cells _ _ _ _ _ (by simp)
            case c2 => intro u hu; simp at hu; rcases hu with rfl | rfl <;> rfl
            case c3 => unfold maxLen; first | omega | (simp; omega)
            case c4 => first | omega | (simp; omega)
            case c5 => first | omega | (simp; omega)
            intro v' w4 hown' hgrow hnil
            obtain ⟨R1, R2', R3⟩ := put_mid D4.out A4.out R4.out hown' hgrow (fun e => hnil e)
            have RR : Hid (PutRel L x y w (k + 1) v' true w4) := Lib.hid ⟨_, R1, F.out, R2', R3⟩
            clear hown' hgrow hnil R1 R2' R3 F hE
            go_wp2_with fail
            go_roundw
            case rel => exact ⟨k + 1, true, by omega, by go_num, rfl, RR.out⟩
            case measure => simp [intOf]; omega
        · have hlt2 : ltB x y p r = false := by simpa using hlt2
          have sl := slt_any x y p r
          rw [hlt2] at sl
          have F := Lib.hid (put_miss (by rw [hn.out]; exact hlt) hc.out (show ltP (x, y) (p, r) = false from hlt2) hE.out)
          clear hlt2 h
          go_wp2_with fail
          go_region_with (go_at_call 64; (with_reducible refine (sl _).mono ?_); rintro e w2 ⟨rfl, B⟩; have D2 := Lib.hid (bstep (Below.drew hnx.out) B); have A2 := Lib.hid ((Below.block B _ hs).trans (show wr.drew.heap[w.heap.size]? = _ from hA.out)); have R2 := Lib.hid ((Row.up hR.out (Below.drew (Below.refl _ _))).up B); obtain ⟨x0, x1, _, _⟩ := blk2 A2.out; have q0 := cell_later B (show wr.drew.cell? _ = _ from q0); have q1 := cell_later B (show wr.drew.cell? _ = _ from q1); have hs := lt_of_heap A2.out; have sz := Below.size B; clear B hA hR hnx)
          all_goals
            go_wp2_with (at_builtin; refine wpList_append_own _ rfl _ _ 28 rfl (w.heap.size + 1) 25 i0 (.agg #[.int .i64 0, .int .i64 0]) 2 16 Tryz.underlying28 hi hz0 hz1 hz2 rfl (by decide) _ _ _ rfl (R2.out.1.alloc _) ⟨w2.heap.size, 0, none⟩ 1 1 [.int .i64 p, .int .i64 r] rfl rfl ?c1 ?c2 ?c3 ?c4 ?c5 ?_)
            case c1 => exact two_cells _ _ _ _ _ (by simp)
            case c2 => intro u hu; simp at hu; rcases hu with rfl | rfl <;> rfl
            case c3 => unfold maxLen; first | omega | (simp; omega)
            case c4 => first | omega | (simp; omega)
            case c5 => first | omega | (simp; omega)
            intro v' w4 hown' hgrow hnil
            obtain ⟨R1, R2', R3⟩ := put_mid D2.out A2.out R2.out hown' hgrow (fun e => hnil e)
            have RR : Hid (PutRel L x y w (k + 1) v' false w4) := Lib.hid ⟨_, R1, F.out, R2', R3⟩
            clear hown' hgrow hnil R1 R2' R3 F hE
            go_wp2_with fail
            go_roundw
            case rel => exact ⟨k + 1, false, by omega, by go_num, rfl, RR.out⟩
            case measure => simp [intOf]; omega
      · have F := Lib.hid (put_in (by rw [hn.out]; exact hlt) hc.out hE.out)
        clear h
        go_wp2_with fail
        go_quiet (fail)
        go_wp2_with (at_builtin; refine wpList_append_own _ rfl _ _ 28 rfl (w.heap.size + 1) 25 i0 (.agg #[.int .i64 0, .int .i64 0]) 2 16 Tryz.underlying28 hi hz0 hz1 hz2 rfl (by decide) _ _ _ rfl ((hR.out.up (bdrewN (Below.refl _ _) _)).1.alloc _) ⟨wr.heap.size, 0, none⟩ 1 1 [.int .i64 p, .int .i64 r] rfl rfl ?c1 ?c2 ?c3 ?c4 ?c5 ?_)
        case c1 => exact two_cells _ _ _ _ _ (by simp)
        case c2 => intro u hu; simp at hu; rcases hu with rfl | rfl <;> rfl
        case c3 => unfold maxLen; first | omega | (simp; omega)
        case c4 => first | omega | (simp; omega)
        case c5 => first | omega | (simp; omega)
        intro v' w4 hown' hgrow hnil
        obtain ⟨R1, R2', R3⟩ := put_mid (bdrewN hnx.out _) (show (wr.drewN _).heap[w.heap.size]? = _ from hA.out) (hR.out.up (bdrewN (Below.refl _ _) _)) hown' hgrow (fun e => hnil e)
        have RR : Hid (PutRel L x y w (k + 1) v' true w4) := Lib.hid ⟨_, R1, F.out, R2', R3⟩
        clear hR hA hnx hown' hgrow hnil R1 R2' R3 F hE
        go_wp2_with fail
        go_roundw
        case rel => exact ⟨k + 1, true, by omega, by go_num, rfl, RR.out⟩
        case measure => simp [intOf]; omega
    · obtain rfl : k = n := by omega
      have hdr : L.drop k = [] := List.drop_eq_nil_of_le (by rw [hn.out]; exact Nat.le_refl _)
      have hE2 := hE.out
      rw [hdr] at hE2
      have hE2 := Lib.hid hE2
      have hnx := Lib.hid hnx
      clear h hE hdr
      cases q
      · skip
        go_wp2_with (at_builtin; refine wpList_append_own _ rfl _ _ 28 rfl (w.heap.size + 1) 25 i0 (.agg #[.int .i64 0, .int .i64 0]) 2 16 Tryz.underlying28 hi hz0 hz1 hz2 rfl (by decide) _ _ _ rfl (hR.out.1.alloc _) ⟨wr.heap.size, 0, none⟩ 1 1 [.int .i64 x, .int .i64 y] rfl rfl ?c1 ?c2 ?c3 ?c4 ?c5 ?_)
        case c1 => exact two_cells _ _ _ _ _ (by simp)
        case c2 => intro u hu; simp at hu; rcases hu with rfl | rfl <;> rfl
        case c3 => unfold maxLen; first | omega | (simp; omega)
        case c4 => first | omega | (simp; omega)
        case c5 => first | omega | (simp; omega)
        intro v' w4 hown' hgrow hnil
        obtain ⟨R1, R2', R3⟩ := put_mid hnx.out hA.out hR.out hown' hgrow (fun e => hnil e)
        obtain ⟨g, hg, hO⟩ := R1.own (by simp; omega)
        rw [show O ++ [(x, y)] = putP L (x, y) from hE2.out] at hO
        have hO := Lib.hid hO
        have D4 := Lib.hid R3
        clear hown' hgrow hnil R1 R2' R3 hR hA hnx
        go_wp2_with fail
        go_ret
        exact ⟨g, _, by omega, rfl, hO.out, D4.out⟩
      · obtain ⟨g, hg, hO⟩ := hR.out.own (by omega)
        rw [show O = putP L (x, y) from (List.append_nil O).symm.trans hE2.out] at hO
        have hO := Lib.hid hO
        clear hR hA
        go_wp2_with fail
        go_ret
        exact ⟨g, _, by omega, rfl, hO.out, hnx.out⟩

theorem Row.parts {w : World} {B g n cap : Nat} {O : List Pid} (h : Row w B (.slice (some ⟨g, 0, none⟩) n cap) O) : ∃ cur, w.heap[g]? = some (.cells cur 25 (0, 0)) ∧ cur.size = cap * 2 ∧ O.length = n ∧ (∀ j, j < cap * 2 → (w.cell? ⟨g, j, none⟩).isSome = true) ∧ (∀ j, w.frozen? ⟨g, j, none⟩ = false) ∧ (∀ j, j < n * 2 → w.cell? ⟨g, j, none⟩ = (flatP O)[j]?) := by
  rcases h.1.2 with ⟨e, _⟩ | ⟨g', cap', cur, e, h1, h2, h3, h4, h5, h6⟩
  · exact absurd e h.2
  · injection e with e1 e2 e3
    injection e1 with e1
    injection e1 with e1
    subst e1 e2 e3
    refine ⟨cur, h2, h5, rfl, fun j hj => ?_, fun j => by simp [World.frozen?, h2], fun j hj => ?_⟩
    · rw [cell_of_cells h2, Array.getElem?_eq_getElem (by omega)]; rfl
    · rw [cell_of_cells h2, ← h6, List.getElem?_take, if_pos hj]; simp
end Go.Proofs.YtiolhjjkjmepcaaGreatDoor

/- Rows of entries that are being built. -/
namespace Go.Proofs.YtiolhjjkjmepcaaGreatDoor
open Go.RowKit
set_option linter.unusedVariables false

/-- A block's kind. -/
def BkT (w : World) (b : Nat) (t : TypeId) : Prop := ∃ cur, w.heap[b]? = some (.cells cur t (0, 0))
theorem BkT.ne {w : World} {b c : Nat} {t u : TypeId} (h : BkT w b t) (g : BkT w c u) (hn : t ≠ u) : b ≠ c := fun e => by
  obtain ⟨_, h⟩ := h; obtain ⟨_, g⟩ := g; subst e; rw [h] at g; simp at g; exact hn g.2
theorem BkT.lt {w : World} {b : Nat} {t : TypeId} (h : BkT w b t) : b < w.heap.size := by obtain ⟨_, h⟩ := h; exact lt_of_heap h
theorem rowT {w : World} {B : Nat} {e : TypeId} {size : Nat} {v : Value} {n : Nat} {xs : List Value} (h : w.ownsRow B e size v n xs) {k : Nat} (hk : v.ownBlock = some k) : BkT w k e ∧ B ≤ k := by
  rcases h.2 with ⟨rfl, _⟩ | ⟨g, cap, cur, rfl, hb, hg, _⟩
  · simp [Value.ownBlock] at hk
  · simp [Value.ownBlock] at hk; subst hk; exact ⟨⟨cur, hg⟩, hb⟩
theorem rowSame {w w' : World} {B : Nat} {e : TypeId} {size : Nat} {v : Value} {n : Nat} {xs : List Value} (h : w.ownsRow B e size v n xs) (hs : ∀ k, v.ownBlock = some k → w'.heap[k]? = w.heap[k]?) : w'.ownsRow B e size v n xs := by
  refine ⟨h.1, ?_⟩
  rcases h.2 with hn | ⟨g, cap, cur, rfl, hb, hg, rest⟩
  · exact .inl hn
  · exact .inr ⟨g, cap, cur, rfl, hb, (hs g rfl).trans hg, rest⟩
theorem Row.ownE {w : World} {B : Nat} {v : Value} {O : List Pid} (h : Row w B v O) (hl : O.length ≤ 2000000) : ∃ b, B ≤ b ∧ BkT w b 25 ∧ OwnP w b v O := by
  obtain ⟨b, hb, hO⟩ := h.own hl
  have e : v.ownBlock = some b := by obtain ⟨c, rfl, _⟩ := hO.shape; rfl
  exact ⟨b, hb, (rowT h.1 e).1, hO⟩

/-- Entries with the values of their lists. -/
abbrev EL : Type := List (En × Value)
def ecell (x : En × Value) : List Value := enc9 x.1 x.2
def flatE : EL → List Value
  | [] => []
  | x :: r => ecell x ++ flatE r
theorem ecell_len (x : En × Value) : (ecell x).length = 9 := rfl
theorem flatE_app : ∀ (A B : EL), flatE (A ++ B) = flatE A ++ flatE B
  | [], B => rfl
  | c :: r, B => by simp [flatE, flatE_app r B]
theorem flatE_len : ∀ L : EL, (flatE L).length = L.length * 9
  | [] => rfl
  | c :: r => by simp [flatE, ecell_len, flatE_len r]; omega
def ez : En × Value := (en0, .slice none 0 0)
theorem flatE_get : ∀ (L : EL) (i j : Nat), i < L.length → j < 9 → (flatE L)[i * 9 + j]? = (ecell (L.getD i ez))[j]?
  | [], i, j, h, _ => absurd h (by simp)
  | x :: r, 0, j, _, hj => by
    rw [flatE, Nat.zero_mul, Nat.zero_add, List.getElem?_append_left (by rw [ecell_len]; exact hj)]; rfl
  | x :: r, i + 1, j, h, hj => by
    have ih := flatE_get r i j (by simpa using h) hj
    rw [flatE, List.getElem?_append_right (by rw [ecell_len]; omega)]
    have e : (i + 1) * 9 + j - (ecell x).length = i * 9 + j := by rw [ecell_len]; omega
    rw [e, ih]; rfl

/-- A slice of entries that is being built. -/
structure ER (w : World) (B : Nat) (v : Value) (L : EL) : Prop where
  row : w.ownsRow B 30 9 v L.length (flatE L)
  nn : v ≠ .slice none 0 0
  deps : ∀ x ∈ L, ∃ b, B ≤ b ∧ v.ownBlock ≠ some b ∧ OwnP w b x.2 x.1.deps
theorem er_new (w : World) (B : Nat) (hB : B ≤ w.heap.size) : ER (w.alloc (.cells #[] 30)) B (.slice (some ⟨w.heap.size, 0, none⟩) 0 0) [] :=
  ⟨World.ownsRow_made _ #[] 0 hB (Nat.zero_le _) rfl, by simp, fun _ h => nomatch h⟩
section
variable {w w' : World} {B : Nat} {v : Value} {L : EL}
theorem ER.same (h : ER w B v L) (hk : ∀ b, B ≤ b → b < w.heap.size → w'.heap[b]? = w.heap[b]?) : ER w' B v L := by
  refine ⟨rowSame h.row fun k hk' => hk k (rowT h.row hk').2 (rowT h.row hk').1.lt, h.nn, fun x hx => ?_⟩
  obtain ⟨b, h1, h2, h3⟩ := h.deps x hx
  exact ⟨b, h1, h2, h3.same (hk b h1 h3.lt)⟩
theorem ER.up (h : ER w B v L) (hb : Below w.heap.size w w') : ER w' B v L := h.same fun b _ hl => hb.block b hl
theorem ER.put (h : ER w B v L) {o : Obj} {v' : Value} {x : En × Value} (hown : w'.ownsRow B 30 9 v' (L.length + 1) (flatE L ++ ecell x)) (hg : (w.alloc o).grownBy w' (Value.ownBlock v)) (hn : v' ≠ .slice none 0 0)
    (hat : v'.ownBlock = v.ownBlock ∨ v'.ownBlock = some (w.heap.size + 1)) (hx : ∃ b, B ≤ b ∧ v.ownBlock ≠ some b ∧ OwnP w b x.2 x.1.deps) : ER w' B v' (L ++ [x]) := by
  have keep : ∀ b, b < w.heap.size → v.ownBlock ≠ some b → w'.heap[b]? = w.heap[b]? := fun b hl hne =>
    (hg.block b (by simp; omega) (fun e => hne e.symm)).trans (Below.heap_alloc _ _ _ hl)
  refine ⟨by rw [flatE_app, List.length_append]; simpa [flatE] using hown, hn, fun y hy => ?_⟩
  have hh : ∃ b, B ≤ b ∧ v.ownBlock ≠ some b ∧ OwnP w b y.2 y.1.deps := by
    rcases List.mem_append.1 hy with hy | hy
    · exact h.deps y hy
    · rw [List.mem_singleton] at hy; rw [hy]; exact hx
  obtain ⟨b, h1, h2, h3⟩ := hh
  refine ⟨b, h1, ?_, h3.same (keep b h3.lt h2)⟩
  rcases hat with e | e
  · rw [e]; exact h2
  · rw [e]; intro e'; injection e' with e'; have := h3.lt; omega
/-- What an append leaves of other blocks. -/
theorem ER.grown (h : ER w B v L) {o : Obj} (hg : (w.alloc o).grownBy w' (Value.ownBlock v)) (hB : B ≤ w.heap.size) : Below B w w' := by
  have a := (Below.refl B w).alloc hB o
  exact a.trans ⟨hg.os, hg.tape, hg.output, hg.size, fun k hk => hg.block k (by have := a.size; omega) (fun e => absurd (rowT h.row e.symm).2 (by omega))⟩
theorem ER.shape (h : ER w B v L) : ∃ g cap, v = .slice (some ⟨g, 0, none⟩) L.length cap ∧ B ≤ g ∧ g < w.heap.size ∧ L.length ≤ cap ∧ cap ≤ maxLen := by
  rcases h.row.2 with ⟨rfl, _⟩ | ⟨g, cap, cur, rfl, hb, hg, hc, hm, _⟩
  · exact absurd rfl h.nn
  · exact ⟨g, cap, rfl, hb, lt_of_heap hg, hc, hm⟩
theorem fstE_getD {L : EL} {i : Nat} (hi : i < L.length) : (L.map Prod.fst).getD i en0 = (L.getD i ez).1 := by
  rw [List.getD_eq_getElem?_getD, List.getD_eq_getElem?_getD, List.getElem?_map, List.getElem?_eq_getElem hi]; rfl
theorem ER.eno (h : ER w B v L) (hl : L.length ≤ 2000000) : EnO w B v (L.map Prod.fst) := by
  rcases h.row.2 with ⟨rfl, _⟩ | ⟨g, cap, cur, rfl, hb, hg, hc, hm, hs, ht⟩
  · exact absurd rfl h.nn
  · refine ⟨g, cap, cur, _, by rw [List.length_map], hb, hg, by rw [List.length_map]; exact hc, by rw [List.length_map]; exact hl, fun i hi => ?_⟩
    rw [List.length_map] at hi
    rw [fstE_getD hi]
    have hx : L.getD i ez ∈ L := by rw [List.getD_eq_getElem?_getD, List.getElem?_eq_getElem hi]; exact List.getElem_mem hi
    have hk : ∀ j, j < 9 → cur[i * 9 + j]? = (ecell (L.getD i ez))[j]? := fun j hj => by
      rw [← flatE_get L i j hi hj, ← ht, List.getElem?_take, if_pos (by omega)]; simp
    obtain ⟨b, h1, h2, h3⟩ := h.deps _ hx
    exact ⟨b, _, h1, fun e => h2 (by rw [e]; rfl), hk, h3⟩
end
theorem nine_srcE (w : World) (t : TypeId) (x0 x1 x2 x3 x4 x5 x6 x7 x8 : Value) (n : Nat) (hn : n = w.heap.size) : ∀ j v, [x0, x1, x2, x3, x4, x5, x6, x7, x8][j]? = some v → (w.alloc (.cells #[x0, x1, x2, x3, x4, x5, x6, x7, x8] t)).cell? ((⟨n, 0, none⟩ : Addr).add j) = some v := by
  subst hn
  intro j v hj
  have h := heap_alloc_new w (.cells #[x0, x1, x2, x3, x4, x5, x6, x7, x8] t)
  rw [Addr.add_lit, Nat.zero_add, cell_of_cells h]
  simpa using hj
theorem nine_oneE (x0 x1 x2 x3 x4 x5 x6 x7 : Int) (a : Option Addr) (n c : Nat) : ∀ u ∈ [Value.int .i64 x0, .int .i64 x1, .int .i64 x2, .int .i64 x3, .int .i64 x4, .int .i64 x5, .int .i64 x6, .int .i64 x7, .slice a n c], u.oneCell' = true := by
  intro u hu
  simp at hu
  rcases hu with rfl | rfl | rfl | rfl | rfl | rfl | rfl | rfl | rfl <;> rfl
end Go.Proofs.YtiolhjjkjmepcaaGreatDoor

/- What the book's entries use: a slice made with a capacity, a look-up without ok. -/
namespace Go.Proofs.YtiolhjjkjmepcaaGreatDoor
open Go.RowKit
set_option linter.unusedVariables false
set_option maxRecDepth 100000

theorem make_capE (n : Nat) (hn : n ≤ 2000000) (w : World) : (Instr.makeSlice 23 (.int .i64 0) (.int .i64 n)).run Tryz.prog w = .ok (.slice (some ⟨w.heap.size, 0, none⟩) 0 n) (w.alloc (.cells (madeCells #[.int .i64 0, .int .i64 0, .int .i64 0, .int .i64 0, .int .i64 0, .int .i64 0, .int .i64 0, .int .i64 0, .slice none 0 0] (n * 9)) 30)) := by
  obtain ⟨i, hi, hz, hs, hb⟩ := info_parts info_en
  have hr := run_make (P := Tryz.prog) w 23 30 i _ Tryz.underlying23 hi hz .i64 .i64 0 n (by omega) (by omega) (by rw [hb]; omega) (by omega)
  simp only [Int.toNat_natCast, hs] at hr
  exact hr
theorem er_cap (w : World) (n B : Nat) (hB : B ≤ w.heap.size) (hn : n ≤ 2000000) : ER (w.alloc (.cells (madeCells #[.int .i64 0, .int .i64 0, .int .i64 0, .int .i64 0, .int .i64 0, .int .i64 0, .int .i64 0, .int .i64 0, .slice none 0 0] (n * 9)) 30)) B (.slice (some ⟨w.heap.size, 0, none⟩) 0 n) [] :=
  ⟨World.ownsRow_made _ _ n hB (by unfold maxLen; omega) (by simp [madeCells]), by simp, fun _ h => nomatch h⟩
/-- An entry that is there is looked up without ok. -/
theorem Book.at {w : World} {bb n : Nat} {M : Pid → Option Value} {t e : TypeId} (h : Book w bb n M) (ht : Tryz.prog.underlying t = some (.map 25 e)) {z : Value} (hz : (zeroValue e).run Tryz.prog w = .ok z w) {a : Pid} (ha : inR a) {v : Value} (hv : M a = some v) :
    (Instr.lookup t (.map (some bb)) (idv2 a) false).run Tryz.prog w = .ok v w := by
  obtain ⟨D, h1, h2⟩ := h
  obtain ⟨v', ps, r1, r2⟩ := h1.lookup id_law ht hz (zd := .held z) (zp := []) rfl (key_of ha)
  have g := (h2 a ha).2 v hv (.held z)
  unfold Rv at r2
  injection r2 with r2
  injection r2 with r2 _
  rw [g] at r2
  injection r2 with r2
  rw [r1, r2]
end Go.Proofs.YtiolhjjkjmepcaaGreatDoor

/- Rows of entries with lists of their own, as results have them. -/
namespace Go.Proofs.YtiolhjjkjmepcaaGreatDoor
open Go.RowKit
set_option linter.unusedVariables false

/-- An entry of a result: its list's value, and between which blocks the list lies. -/
structure Zn where
  en : En
  u : Value
  p : Nat
  q : Nat
def zn0 : Zn := ⟨en0, .slice none 0 0, 0, 0⟩
def zel (L : List Zn) : EL := L.map fun x => (x.en, x.u)
def zens (L : List Zn) : List En := L.map fun x => x.en
theorem zel_app (L : List Zn) (x : Zn) : zel (L ++ [x]) = zel L ++ [(x.en, x.u)] := by simp [zel]
theorem zens_app (L : List Zn) (x : Zn) : zens (L ++ [x]) = zens L ++ [x.en] := by simp [zens]
theorem zel_len (L : List Zn) : (zel L).length = L.length := by simp [zel]
theorem zens_len (L : List Zn) : (zens L).length = L.length := by simp [zens]
theorem zens_get {L : List Zn} {i : Nat} (hi : i < L.length) : (zens L).getD i en0 = (L.getD i zn0).en := by
  unfold zens
  rw [List.getD_eq_getElem?_getD, List.getD_eq_getElem?_getD, List.getElem?_map, List.getElem?_eq_getElem hi]; rfl
theorem zel_get {L : List Zn} {i : Nat} (hi : i < L.length) : (zel L).getD i ez = ((L.getD i zn0).en, (L.getD i zn0).u) := by
  unfold zel
  rw [List.getD_eq_getElem?_getD, List.getD_eq_getElem?_getD, List.getElem?_map, List.getElem?_eq_getElem hi]; rfl
theorem OwZ.keep {w w' : World} {B T : Nat} {u : Value} {C : List Pid} (h : OwZ w B T u C) (hk : ∀ b, B ≤ b → b < T → b < w.heap.size → w'.heap[b]? = w.heap[b]?) : OwZ w' B T u C := by
  rcases h with h | ⟨b, h1, h2, h⟩
  · exact .inl h
  · exact .inr ⟨b, h1, h2, h.same (hk b h1 h2 h.lt)⟩

/-- A result that is being built. -/
structure ZR (w : World) (B : Nat) (v : Value) (L : List Zn) : Prop where
  row : w.ownsRow B 30 9 v L.length (flatE (zel L))
  nn : v ≠ .slice none 0 0
  deps : ∀ x ∈ L, B ≤ x.p ∧ x.q ≤ w.heap.size ∧ (∀ b, v.ownBlock = some b → x.p ≤ b → b < x.q → False) ∧ OwZ w x.p x.q x.u x.en.deps
  ord : L.Pairwise fun x y => x.q ≤ y.p
theorem zr_new (w : World) (B : Nat) (hB : B ≤ w.heap.size) : ZR (w.alloc (.cells #[] 30)) B (.slice (some ⟨w.heap.size, 0, none⟩) 0 0) [] :=
  ⟨(er_new w B hB).row, by simp, (fun _ h => nomatch h), List.Pairwise.nil⟩
theorem zr_cap (w : World) (n B : Nat) (hB : B ≤ w.heap.size) (hn : n ≤ 2000000) : ZR (w.alloc (.cells (madeCells #[.int .i64 0, .int .i64 0, .int .i64 0, .int .i64 0, .int .i64 0, .int .i64 0, .int .i64 0, .int .i64 0, .slice none 0 0] (n * 9)) 30)) B (.slice (some ⟨w.heap.size, 0, none⟩) 0 n) [] :=
  ⟨(er_cap w n B hB hn).row, by simp, (fun _ h => nomatch h), List.Pairwise.nil⟩
section
variable {w w' : World} {B : Nat} {v : Value} {L : List Zn}
theorem ZR.same (h : ZR w B v L) (hs : w.heap.size ≤ w'.heap.size) (hk : ∀ b, B ≤ b → b < w.heap.size → w'.heap[b]? = w.heap[b]?) : ZR w' B v L := by
  refine ⟨rowSame h.row fun k hk' => hk k (rowT h.row hk').2 (rowT h.row hk').1.lt, h.nn, fun x hx => ?_, h.ord⟩
  obtain ⟨h1, h2, h3, h4⟩ := h.deps x hx
  exact ⟨h1, Nat.le_trans h2 hs, h3, h4.keep fun b hb1 hb2 hb3 => hk b (Nat.le_trans h1 hb1) hb3⟩
theorem ZR.up (h : ZR w B v L) (hb : Below w.heap.size w w') : ZR w' B v L := h.same hb.size fun b _ hl => hb.block b hl
theorem ZR.put (h : ZR w B v L) {o : Obj} {v' : Value} {x : Zn} (hown : w'.ownsRow B 30 9 v' (L.length + 1) (flatE (zel L) ++ ecell (x.en, x.u))) (hg : (w.alloc o).grownBy w' (Value.ownBlock v)) (hn : v' ≠ .slice none 0 0)
    (hat : v'.ownBlock = v.ownBlock ∨ v'.ownBlock = some (w.heap.size + 1)) (hx : B ≤ x.p ∧ x.q ≤ w.heap.size ∧ (∀ b, v.ownBlock = some b → x.p ≤ b → b < x.q → False) ∧ OwZ w x.p x.q x.u x.en.deps) (ho : ∀ y ∈ L, y.q ≤ x.p) : ZR w' B v' (L ++ [x]) := by
  have keep : ∀ b, b < w.heap.size → v.ownBlock ≠ some b → w'.heap[b]? = w.heap[b]? := fun b hl hne =>
    (hg.block b (by simp; omega) (fun e => hne e.symm)).trans (Below.heap_alloc _ _ _ hl)
  have hsz : w.heap.size ≤ w'.heap.size := by have := hg.size; simp at this; omega
  refine ⟨by rw [zel_app, flatE_app, List.length_append]; simpa [flatE] using hown, hn, fun y hy => ?_, ?_⟩
  · have hh : B ≤ y.p ∧ y.q ≤ w.heap.size ∧ (∀ b, v.ownBlock = some b → y.p ≤ b → b < y.q → False) ∧ OwZ w y.p y.q y.u y.en.deps := by
      rcases List.mem_append.1 hy with hy | hy
      · exact h.deps y hy
      · rw [List.mem_singleton] at hy; rw [hy]; exact hx
    obtain ⟨h1, h2, h3, h4⟩ := hh
    refine ⟨h1, by omega, fun b e b1 b2 => ?_, h4.keep fun b b1 b2 b3 => keep b b3 fun e => h3 b e b1 b2⟩
    rcases hat with e' | e'
    · rw [e'] at e; exact h3 b e b1 b2
    · rw [e'] at e; injection e with e; omega
  · rw [List.pairwise_append]
    exact ⟨h.ord, List.pairwise_singleton _ _, fun a ha b hb => by rw [List.mem_singleton] at hb; subst hb; exact ho a ha⟩
theorem ZR.grown (h : ZR w B v L) {o : Obj} (hg : (w.alloc o).grownBy w' (Value.ownBlock v)) (hB : B ≤ w.heap.size) : Below B w w' := by
  have a := (Below.refl B w).alloc hB o
  exact a.trans ⟨hg.os, hg.tape, hg.output, hg.size, fun k hk => hg.block k (by have := a.size; omega) (fun e => absurd (rowT h.row e.symm).2 (by omega))⟩
end

/-- A log in memory of its own: the row's block, and each list between its blocks. -/
structure LgAt (w : World) (B T g n : Nat) (X : Nat → En) (U : Nat → Value) (P Q : Nat → Nat) : Prop where
  blk : ∃ cur t, w.heap[g]? = some (.cells cur t (0, 0)) ∧ n * 9 ≤ cur.size ∧ ∀ i, i < n → EnC cur i (X i) (U i)
  g0 : B ≤ g
  g1 : g < T
  top : T ≤ w.heap.size
  deps : ∀ i, i < n → OwZ w (P i) (Q i) (U i) (X i).deps ∧ B ≤ P i ∧ Q i ≤ T ∧ (P i ≤ g → g < Q i → False)
  ord : ∀ i j, i < j → j < n → Q i ≤ P j
def LogO (w : World) (B T : Nat) (v : Value) (N : List En) : Prop := ∃ g cap U P Q, v = .slice (some ⟨g, 0, none⟩) N.length cap ∧ N.length ≤ cap ∧ N.length ≤ 2000000 ∧ LgAt w B T g N.length (fun i => N.getD i en0) U P Q
theorem zn_mem {L : List Zn} {i : Nat} (hi : i < L.length) : L.getD i zn0 ∈ L := by
  rw [List.getD_eq_getElem?_getD, List.getElem?_eq_getElem hi]; exact List.getElem_mem hi
theorem ZR.log {w : World} {B : Nat} {v : Value} {L : List Zn} (h : ZR w B v L) (hl : L.length ≤ 2000000) : LogO w B w.heap.size v (zens L) := by
  rcases h.row.2 with ⟨rfl, _⟩ | ⟨g, cap, cur, rfl, hb, hg, hc, hm, hs, ht⟩
  · exact absurd rfl h.nn
  · have hsz : L.length * 9 ≤ cur.size := by
      have e := congrArg List.length ht
      rw [List.length_take, flatE_len, zel_len, Array.length_toList] at e
      omega
    refine ⟨g, cap, fun i => (L.getD i zn0).u, fun i => (L.getD i zn0).p, fun i => (L.getD i zn0).q, by rw [zens_len], by rw [zens_len]; exact hc, by rw [zens_len]; exact hl, ?_⟩
    rw [zens_len]
    refine ⟨⟨cur, _, hg, hsz, fun i hi j hj => ?_⟩, hb, lt_of_heap hg, Nat.le_refl _, fun i hi => ?_, fun i j hij hj => ?_⟩
    · try dsimp only
      rw [zens_get hi]
      have e := flatE_get (zel L) i j (by rw [zel_len]; exact hi) hj
      rw [zel_get hi] at e
      refine Eq.trans ?_ e
      rw [← ht, List.getElem?_take, if_pos (by omega)]; simp
    · try dsimp only
      rw [zens_get hi]
      obtain ⟨h1, h2, h3, h4⟩ := h.deps _ (zn_mem hi)
      exact ⟨h4, h1, h2, fun a b => h3 g rfl a b⟩
    · have := List.pairwise_iff_getElem.1 h.ord i j (by omega) hj hij
      try dsimp only
      rw [List.getD_eq_getElem?_getD, List.getElem?_eq_getElem (by omega : i < L.length), List.getD_eq_getElem?_getD, List.getElem?_eq_getElem hj]
      exact this
section
variable {w w' : World} {B T : Nat} {v : Value} {N : List En} {g n : Nat} {X : Nat → En} {U : Nat → Value} {P Q : Nat → Nat}
theorem LgAt.apart {D : Nat → Prop} (h : LgAt w B T g n X U P Q) (he : Exc D w w') (hn : ∀ b, B ≤ b → b < T → ¬ D b) : LgAt w' B T g n X U P Q := by
  obtain ⟨cur, t, h1, h2, h3⟩ := h.blk
  refine ⟨⟨cur, t, (he.block g (lt_of_heap h1) (hn g h.g0 h.g1)).trans h1, h2, h3⟩, h.g0, h.g1, Nat.le_trans h.top he.size, fun i hi => ?_, h.ord⟩
  obtain ⟨a1, a2, a3, a4⟩ := h.deps i hi
  exact ⟨a1.apart he (fun b b1 b2 => hn b (by omega) (by omega)), a2, a3, a4⟩
theorem LogO.apart {D : Nat → Prop} (h : LogO w B T v N) (he : Exc D w w') (hn : ∀ b, B ≤ b → b < T → ¬ D b) : LogO w' B T v N := by
  obtain ⟨g, cap, U, P, Q, h1, h2, h3, h4⟩ := h
  exact ⟨g, cap, U, P, Q, h1, h2, h3, h4.apart he hn⟩
theorem LogO.up (h : LogO w B T v N) (hb : Below w.heap.size w w') : LogO w' B T v N := h.apart (D := fun _ => False) (Exc.of hb) (fun _ _ _ h => h)
theorem LogO.wide {B' T' : Nat} (h : LogO w B T v N) (hB : B' ≤ B) (hT : T ≤ T') (hs : T' ≤ w.heap.size) : LogO w B' T' v N := by
  obtain ⟨g, cap, U, P, Q, h1, h2, h3, h4⟩ := h
  refine ⟨g, cap, U, P, Q, h1, h2, h3, ⟨h4.blk, Nat.le_trans hB h4.g0, Nat.lt_of_lt_of_le h4.g1 hT, hs, fun i hi => ?_, h4.ord⟩⟩
  obtain ⟨a1, a2, a3, a4⟩ := h4.deps i hi
  exact ⟨a1, Nat.le_trans hB a2, Nat.le_trans a3 hT, a4⟩
theorem LogO.read (h : LogO w B T v N) : Ens w v N := by
  obtain ⟨g, cap, U, P, Q, rfl, h2, h3, h4⟩ := h
  obtain ⟨cur, t, hg, hs, hc⟩ := h4.blk
  exact ⟨_, cap, rfl, h2, h3, .inr ⟨g, 0, U, rfl, lt_of_heap hg, fun i hi => enc_at hg (hc i hi) (h4.deps i hi).1.read⟩⟩
theorem LogO.shape (h : LogO w B T v N) : ∃ g cap, v = .slice (some ⟨g, 0, none⟩) N.length cap ∧ N.length ≤ cap ∧ N.length ≤ 2000000 := by
  obtain ⟨g, cap, U, P, Q, h1, h2, h3, h4⟩ := h
  exact ⟨g, cap, h1, h2, h3⟩
theorem LogO.none (w : World) (B : Nat) (hB : B ≤ w.heap.size) : LogO (w.alloc (.cells #[] 30)) B (w.heap.size + 1) (.slice (some ⟨w.heap.size, 0, .none⟩) 0 0) [] := by
  have := (zr_new w B hB).log (Nat.zero_le _)
  simpa [zens] using this
end
end Go.Proofs.YtiolhjjkjmepcaaGreatDoor

/- slices.AppendSeq at the keys of a book. -/
namespace Go.Proofs.YtiolhjjkjmepcaaGreatDoor
open Go.RowKit Go.Shelf
open Go.Maps (Keyed IsMap)
set_option linter.unusedVariables false
attribute [local go_sem] Oper.semAt_some

set_option maxRecDepth 100000 in
set_option maxHeartbeats 4000000 in
theorem iappseq_in (F : Fence) (n : Nat) (hf : F.fn 99) (hk : F.fn 94) (hro : F.round = none) (hn : 3 ≤ n) (Bm bb nn : Nat) (M : Pid → Option Value) (Ks : List Pid) (hKs : KeysOf M Ks) (hl : Ks.length ≤ 2000000) (w : World) (hBm : Bm < w.heap.size)
    (hm : w.cell? ⟨Bm, 0, none⟩ = some (.map (some bb))) (hown : Book w bb nn M) :
    CallsIn F n Tryz.prog 99 #[.slice none 0 0, .func (.func 94) #[] #[.pointer (some ⟨Bm, 0, none⟩)]] w fun e W' => ∃ v, ∃ L : List KId, e = .returned v ∧ ((kvs L).Nodup ∧ ∀ a, a ∈ kvs L ↔ a ∈ Ks) ∧ W'.ownsRow w.heap.size 25 2 v (kvs L).length (flatP (kvs L)) ∧ (v = .slice none 0 0 ↔ L = []) ∧ Below w.heap.size w W' := by
  have h1 : 1 ≤ n := by omega
  obtain ⟨i0, hi, hz0, hz1, hz2⟩ := info_parts infoP
  refine callsIn_of_wp_marks Tryz.func99 rfl hf ?_ hro
  simp only [Tryz.ntmps99, List.size_toArray, List.length_cons, List.length_nil, Nat.reduceAdd, Nat.reduceSub, Array.replicate_succ, Array.replicate_zero, List.push_toArray, List.append_toArray, List.nil_append, List.cons_append]
  gi_wp2
  have bO := Boxed.new w 28 (.slice none 0 0)
  have hB0 : Below w.heap.size w (w.alloc (.cells #[.slice none 0 0] 28)) := (Below.refl _ w).alloc (Nat.le_refl _) _
  refine wpIn_rangeFunc_ownH hro h1 (gf := 94) (lb := #[.pointer (some ⟨Bm, 0, none⟩)]) rfl hk (enters_of Tryz.func94 (by kernel_rfl) rfl)
    (keys_stops F (n - 1) hk hro (by omega) Bm bb nn M Ks hKs (w.alloc (.cells #[.slice none 0 0] 28)) (by simp; omega) ((hB0.cell (p := ⟨Bm, 0, none⟩) hBm).trans hm) (hown.up hB0 hown.lt)) walksK_t walksK_b (Below.refl _ _) (fun _ => rfl)
    (fun pre W => (∃ v, Boxed W w.heap.size 28 v ∧ W.ownsRow w.heap.size 25 2 v (kvs pre).length (flatP (kvs pre)) ∧ (v = .slice none 0 0 ↔ pre = [])) ∧ Below w.heap.size w W)
    (fun _ _ _ => False)
    (OwnFrom.and (Own.from (holdsRow_own w.heap.size w.heap.size 28 25 2 (fun pre => (kvs pre).length) (fun pre => flatP (kvs pre)) (fun pre v => v = .slice none 0 0 ↔ pre = [])) _) (ownFrom_below (Nat.le_refl _) (by simp)))
    (fun _ _ _ _ _ hs _ _ => hs)
    ⟨⟨_, bO, World.ownsRow_nil _ _ _ _, by simp⟩, hB0⟩
    (fun x a' W => ∃ Bx, w.heap.size < Bx ∧ W.heap[Bx]? = some (.cells #[.int .i64 x.1.1, .int .i64 x.1.2] 25 (0, 0)) ∧ a' = { tmps := #[.slice none 0 0, .func (.func 94) #[] #[.pointer (some ⟨Bm, 0, none⟩)], .pointer (some ⟨w.heap.size, 0, none⟩), undef, .slice none 0 0, .pointer (some ⟨Bx, 0, none⟩), .func (.func 94) #[] #[.pointer (some ⟨Bm, 0, none⟩)], idv2 x.1, undef, undef, undef, undef, undef], defers := [] })
    ?ax ?assign ?body ?done ?stop
  case ax =>
    rintro x a' _ A B row ⟨Bx, h1, h2, h3⟩ hg hr
    refine ⟨Bx, h1, (hg.block Bx (lt_of_heap h2) (fun e => ?_)).trans h2, h3⟩
    obtain ⟨_, o, ho, hc⟩ := hr Bx e.symm
    rw [h2] at ho
    cases ho
    cases hc
  case assign =>
    rintro l pre x W K ⟨⟨v, hv, hrow, hnil⟩, hB⟩ hK
    unfold idv2
    gi_wp2
    exact hK _ _ ((KeepsOthers.alloc _ _).from _) (KeepsWalks.alloc _ _) ⟨⟨v, hv.alloc _, hrow.alloc _, hnil⟩, hB.alloc hB.size _⟩ ⟨W.heap.size, by have := hv.lt; omega, heap_alloc_new W _, rfl⟩
  case body =>
    rintro l pre x a' W hl ⟨r, hr⟩ ⟨⟨v, hv, hrow, hnil⟩, hB⟩ ⟨Bx, hBx, bX, rfl⟩ hlt
    have hc := hv.cell
    have hpb : (kvs pre).length + 1 ≤ 2000000 := by unfold kvs; rw [List.length_map]; omega
    obtain ⟨x0, x1, _, _⟩ := blk2 bX
    have hxl := lt_of_heap bX
    gi_wp2_with (gi_at_builtin; refine wpListIn_append_own _ rfl _ _ 28 rfl w.heap.size 25 i0 (.agg #[.int .i64 0, .int .i64 0]) 2 16 Tryz.underlying28 hi hz0 hz1 hz2 rfl (by decide) _ _ _ rfl (hrow.alloc _) ⟨W.heap.size, 0, none⟩ 1 1 [.int .i64 x.1.1, .int .i64 x.1.2] rfl rfl (two_cells _ _ _ _ _ rfl) (by intro u hu; simp at hu; rcases hu with rfl | rfl <;> rfl) (by unfold maxLen; omega) (by omega) (by have := hB.size; simp; omega) ?_; intro v' w1 hown' hgrow _; obtain ⟨g', cap', rfl⟩ := ownsRow_succ hown'; obtain ⟨hv1, hv2, hr2, hk2, hb2⟩ := hv.appended (by decide) hrow hB.size (Nat.le_refl _) hown' hgrow; have hc1 := hv1.cell; have hf1 := hv1.frozen)
    refine ⟨hk2.from _, hk2.walks, ⟨_, hv2, ?_, by simp⟩, hB.trans hb2⟩
    rw [kvs_app, flatP_app, List.length_append]
    exact hr2
  case done =>
    rintro D L W hD hS ⟨⟨v, hv, hrow, hnil⟩, hB⟩ hK
    have hc := hv.cell
    gi_wp2
    refine ⟨by simp, .inl ⟨_, _, rfl, run_takeDeferred hK, ?_⟩⟩
    exact ⟨_, results_tmp rfl _ _ _, v, L, rfl, hS, ownsRow_putObj hrow _ hK rfl, hnil, hB.trans (belowK_b (w := w) (Nat.le_refl _) W D _ _ (by simp at hD; omega) hK rfl rfl)⟩
  case stop =>
    rintro D c pre W _ _ h _
    exact h.elim
end Go.Proofs.YtiolhjjkjmepcaaGreatDoor
