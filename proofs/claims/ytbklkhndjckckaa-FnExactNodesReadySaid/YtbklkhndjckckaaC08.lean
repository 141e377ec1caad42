/- Texts laid together. -/
import Derived.Test.YtbklkhndjckckaaC01
import Derived.Test.YtbklkhndjckckaaC07
import Derived.Deep.RegionWith
import Derived.Test.YtbklkhndjckckaaC02
/- The laws' copies, comparisons and marks of slices of ids. -/
namespace Go.Proofs.Ytbklkhndjckckaa
open Go.RowKit
set_option linter.unusedVariables false

theorem madeP (n j : Nat) (h : j < n * 2) : (madeCells #[.int .i64 0, .int .i64 0] (n * 2))[j]? = some (.int .i64 0) := by
  unfold madeCells
  rw [Array.getElem?_map, Array.getElem?_range]
  rw [if_pos h]
  have : j % 2 = 0 ∨ j % 2 = 1 := by omega
  rcases this with e | e <;> simp [e]

theorem repP_get (n i : Nat) : (List.replicate n nop).getD i nop = nop := by
  rw [List.getD_eq_getElem?_getD, List.getElem?_replicate]
  split <;> rfl

theorem ownP_made (w : World) (n : Nat) (hn : n ≤ 2000000) (t : TypeId) : OwnP (w.alloc (.cells (madeCells #[.int .i64 0, .int .i64 0] (n * 2)) t)) w.heap.size (.slice (some ⟨w.heap.size, 0, none⟩) n n) (List.replicate n nop) := by
  refine ⟨n, _, t, by simp, heap_alloc_new w _, by simp, by simpa using hn, fun i hi => ?_⟩
  rw [List.length_replicate] at hi
  rw [madeP n _ (by omega), madeP n _ (by omega), repP_get]
  exact ⟨rfl, rfl⟩

theorem info_id : (Try.prog.info? 31).map (fun i => (i.zero, i.size, i.bytes)) = some (some (.agg #[.int .i64 0, .int .i64 0]), 2, 16) := by kernel_rfl

theorem made_ids (n : Nat) (hn : n ≤ 2000000) (w : World) : (Instr.makeSlice 25 (.int .i64 n) (.int .i64 n)).run Try.prog w = .ok (.slice (some ⟨w.heap.size, 0, none⟩) n n) (w.alloc (.cells (madeCells #[.int .i64 0, .int .i64 0] (n * 2)) 31)) := by
  obtain ⟨i, hi, hz, hs, hb⟩ := info_parts info_id
  have hr := run_make (P := Try.prog) w 25 31 i _ Try.underlying25 hi hz .i64 .i64 n n (by omega) (Int.le_refl _) (by rw [hb]; omega) (by omega)
  simp only [Int.toNat_natCast, hs] at hr
  exact hr

theorem id_same {A B : List Pid} (hl : A.length = B.length) (h : ∀ j, j < A.length → A.getD j nop = B.getD j nop) : A = B := by
  apply List.ext_getElem hl
  intro i h1 h2
  have := h i h1
  rw [List.getD_eq_getElem?_getD, List.getD_eq_getElem?_getD, List.getElem?_eq_getElem h1, List.getElem?_eq_getElem h2] at this
  simpa using this
theorem id_up {M C : List Pid} {k : Nat} (hM : k < M.length) (h : ∀ j, j < k → M.getD j nop = C.getD j nop) : ∀ j, j < k + 1 → (M.set k (C.getD k nop)).getD j nop = C.getD j nop := by
  intro j hj
  by_cases e : j = k
  · subst e; rw [List.getD_eq_getElem?_getD, List.getElem?_set_self hM]; rfl
  · rw [List.getD_eq_getElem?_getD, List.getElem?_set_ne (fun x => e x.symm), ← List.getD_eq_getElem?_getD]; exact h j (by omega)

/-- What toIdS leaves: a copy in a block of its own. -/
def CopPPost (C : List Pid) (w : World) (e : Ending) (w' : World) : Prop :=
  ∃ b u, w.heap.size ≤ b ∧ e = .returned u ∧ OwnP w' b u C ∧ Below w.heap.size w w'

set_option maxRecDepth 100000 in
set_option maxHeartbeats 2000000 in
theorem toP_at (b off ca : Nat) (C : List Pid) (w : World) (hb : b < w.heap.size) (hm : C.length ≤ 2000000) (h : ∀ i, i < C.length → w.cell? ⟨b, off + i * 2, none⟩ = some (.int .i64 (C.getD i nop).1) ∧ w.cell? ⟨b, off + i * 2 + 1, none⟩ = some (.int .i64 (C.getD i nop).2)) :
    Calls Try.prog 68 #[.slice (some ⟨b, off, none⟩) C.length ca] w (CopPPost C w) := by
  have hmk := made_ids C.length hm
  have h := Lib.hid h
  have hO := Lib.hid (ownP_made w C.length hm 31)
  obtain ⟨n, hn⟩ : ∃ n, Hid (C.length = n) := ⟨_, Lib.hid rfl⟩
  rw [hn.out] at hmk hm hO ⊢
  go_enter Try.func68, Try.ntmps68
  go_wp2_with fail
  clear hmk
  go_loopw [4] (fun i wr => ∃ k : Nat, k ≤ n ∧ i = .int .i64 k ∧ ∃ M : List Pid, Hid (M.length = n ∧ (∀ j, j < k → M.getD j nop = C.getD j nop) ∧ OwnP wr w.heap.size (.slice (some ⟨w.heap.size, 0, none⟩) n n) M) ∧ Below w.heap.size w wr) (fun i _ => n - (intOf i).toNat)
  case atStart => exact ⟨0, Nat.zero_le _, rfl, List.replicate n nop, Lib.hid ⟨by simp, fun j hj => absurd hj (Nat.not_lt_zero _), hO.out⟩, (Below.refl _ _).alloc (Nat.le_refl _) _⟩
  case round =>
    obtain ⟨k, hk, rfl, M, hM, hnx⟩ := hrel
    clear hO
    by_cases hlt : k < n
    · obtain ⟨h0, h1⟩ := h.out k (by rw [hn.out]; exact hlt)
      have q0 := (hnx.cell (p := ⟨b, off + k * 2, none⟩) hb).trans h0
      have q1 := (hnx.cell (p := ⟨b, off + k * 2 + 1, none⟩) hb).trans h1
      clear h0 h1
      obtain ⟨c, hc⟩ : ∃ c, Hid (C.getD k nop = c) := ⟨_, Lib.hid rfl⟩
      rw [hc.out] at q0 q1
      obtain ⟨x, y⟩ := c
      dsimp only at q0 q1
      have hs := Lib.hid hM.out.2.2.lt
      have hnx := Lib.hid hnx
      go_wp2_with fail
      refine (toId_any x y _).mono ?_
      rintro e w1 ⟨rfl, B⟩
      have hO1 := hM.out.2.2.up B hs.out
      obtain ⟨d0, d1⟩ := hO1.cell k (by rw [hM.out.1]; exact hlt)
      have f0 := hO1.free (k * 2)
      have f1 := hO1.free (k * 2 + 1)
      have hs1 := hO1.lt
      have R := Lib.hid (hO1.set k (by rw [hM.out.1]; exact hlt) (x, y))
      have R2 := Lib.hid (id_up (C := C) (by rw [hM.out.1]; exact hlt) hM.out.2.1)
      have hl := Lib.hid hM.out.1
      have D1 := Lib.hid (hnx.out.trans (B.mono hnx.out.size))
      generalize M.getD k nop = y0 at d0 d1
      clear hM h hO1 B hnx q0 q1 hs
      go_wp2_with fail
      go_roundw
      case rel => exact ⟨k + 1, by omega, by go_num, M.set k (x, y), Lib.hid ⟨by rw [List.length_set]; exact hl.out, by rw [← hc.out]; exact R2.out, R.out⟩, (D1.out.setCell (by simp) _).setCell (by simp) _⟩
      case measure => simp [intOf]; omega
    · obtain rfl : k = n := by omega
      have e : Hid (M = C) := Lib.hid (id_same (hM.out.1.trans hn.out.symm) (fun j hj => hM.out.2.1 j (by rw [← hM.out.1]; exact hj)))
      have hnx := Lib.hid hnx
      clear h
      go_wp2_with fail
      go_ret
      exact ⟨w.heap.size, _, Nat.le_refl _, rfl, by rw [← e.out]; exact hM.out.2.2, hnx.out⟩

theorem toP_nil (a : Option Addr) (ca : Nat) (w : World) :
    Calls Try.prog 68 #[.slice a 0 ca] w (CopPPost [] w) := by
  have hmk : ∀ w : World, (Instr.makeSlice 25 (.int .i64 0) (.int .i64 0)).run Try.prog w = .ok (.slice (some ⟨w.heap.size, 0, none⟩) 0 0) (w.alloc (.cells (madeCells #[.int .i64 0, .int .i64 0] (0 * 2)) 31)) := made_ids 0 (by omega)
  have hO := Lib.hid (ownP_made w 0 (by omega) 31)
  go_enter Try.func68, Try.ntmps68
  go_wp2_with fail
  refine wp_loop_rounds 1 ?_
  rw [rounds_succ]
  go_wp2_with fail
  go_ret
  exact ⟨w.heap.size, _, Nat.le_refl _, rfl, hO.out, (Below.refl _ _).alloc (Nat.le_refl _) _⟩

/-- A COPY. -/
theorem toP_any (u : Value) (C : List Pid) (w : World) (h : Ids w u C) :
    Calls Try.prog 68 #[u] w (CopPPost C w) := by
  obtain ⟨a, cap, rfl, h1, h2, h3⟩ := h
  rcases h3 with h3 | ⟨b, off, rfl, h4, h5⟩
  · obtain rfl : C = [] := List.length_eq_zero_iff.1 h3
    exact toP_nil a cap w
  · exact toP_at b off cap C w h4 h2 h5

theorem eqP1 (x y : Int) (w : World) :
    Calls Try.prog 54 #[.agg #[.int .i64 x, .int .i64 y], .agg #[.int .i64 x, .int .i64 y]] w fun e w' => e = .returned (.bool true) ∧ Below w.heap.size w w' := by
  go_enter Try.func54, Try.ntmps54
  go_wp2_with fail
  go_ret
  exact ⟨rfl, ((Below.refl _ _).alloc (Nat.le_refl _) _).alloc (by simp) _⟩

set_option maxRecDepth 100000 in
set_option maxHeartbeats 2000000 in
theorem eqP_at (a b oa ob ca cb : Nat) (C : List Pid) (w : World) (hm : C.length ≤ 2000000) (ha : a < w.heap.size) (hb : b < w.heap.size)
    (hA : ∀ i, i < C.length → w.cell? ⟨a, oa + i * 2, none⟩ = some (.int .i64 (C.getD i nop).1) ∧ w.cell? ⟨a, oa + i * 2 + 1, none⟩ = some (.int .i64 (C.getD i nop).2))
    (hB : ∀ i, i < C.length → w.cell? ⟨b, ob + i * 2, none⟩ = some (.int .i64 (C.getD i nop).1) ∧ w.cell? ⟨b, ob + i * 2 + 1, none⟩ = some (.int .i64 (C.getD i nop).2)) :
    Calls Try.prog 26 #[.slice (some ⟨a, oa, none⟩) C.length ca, .slice (some ⟨b, ob, none⟩) C.length cb] w fun e w' => e = .returned (.bool true) ∧ Below w.heap.size w w' := by
  have hA := Lib.hid hA
  have hB := Lib.hid hB
  obtain ⟨n, hn⟩ : ∃ n, Hid (C.length = n) := ⟨_, Lib.hid rfl⟩
  rw [hn.out] at hm ⊢
  go_enter Try.func26, Try.ntmps26
  go_wp2_with fail
  go_loopw [5] (fun i wr => ∃ k : Nat, k ≤ n ∧ i = .int .i64 k ∧ Below w.heap.size w wr) (fun i _ => n - (intOf i).toNat)
  case atStart => exact ⟨0, Nat.zero_le _, rfl, Below.refl _ _⟩
  case round =>
    obtain ⟨k, hk, rfl, hnx⟩ := hrel
    by_cases hlt : k < n
    · obtain ⟨h0, h1⟩ := hA.out k (by rw [hn.out]; exact hlt)
      have q0 := (hnx.cell (p := ⟨a, oa + k * 2, none⟩) ha).trans h0
      have q1 := (hnx.cell (p := ⟨a, oa + k * 2 + 1, none⟩) ha).trans h1
      clear h0 h1
      obtain ⟨h0, h1⟩ := hB.out k (by rw [hn.out]; exact hlt)
      have r0 := (hnx.cell (p := ⟨b, ob + k * 2, none⟩) hb).trans h0
      have r1 := (hnx.cell (p := ⟨b, ob + k * 2 + 1, none⟩) hb).trans h1
      clear h0 h1 hA hB
      generalize C.getD k nop = c at q0 q1 r0 r1
      obtain ⟨x, y⟩ := c
      dsimp only at q0 q1 r0 r1
      have hnx := Lib.hid hnx
      go_wp2_with fail
      go_region_with (first | (go_at_call 54; refine (eqP1 x y _).mono ?_; rintro e w1 ⟨rfl, B⟩; have D1 := Lib.hid (bstep (Below.drew hnx.out) B); clear B))
      all_goals
        go_wp2_with fail
        go_roundw
        case rel => exact ⟨k + 1, by omega, by go_num, D1.out⟩
        case measure => simp [intOf]; omega
    · obtain rfl : k = n := by omega
      have hnx := Lib.hid hnx
      clear hA hB
      go_wp2_with fail
      go_ret
      exact ⟨rfl, hnx.out⟩

theorem eqP_nil (a b : Option Addr) (ca cb : Nat) (w : World) :
    Calls Try.prog 26 #[.slice a 0 ca, .slice b 0 cb] w fun e w' => e = .returned (.bool true) ∧ Below w.heap.size w w' := by
  go_enter Try.func26, Try.ntmps26
  go_wp2_with fail
  refine wp_loop_rounds 1 ?_
  rw [rounds_succ]
  go_wp2_with fail
  go_ret
  exact ⟨rfl, Below.refl _ _⟩

theorem eqP_any (u x : Value) (C : List Pid) (w : World) (h : Ids w u C) (g : Ids w x C) :
    Calls Try.prog 26 #[u, x] w fun e w' => e = .returned (.bool true) ∧ Below w.heap.size w w' := by
  obtain ⟨a, cap, rfl, h1, h2, h3⟩ := h
  obtain ⟨b, cap', rfl, g1, g2, g3⟩ := g
  rcases h3 with h3 | ⟨a, off, rfl, h4, h5⟩
  · obtain rfl : C = [] := List.length_eq_zero_iff.1 h3
    exact eqP_nil a b cap cap' w
  · rcases g3 with g3 | ⟨b, off', rfl, g4, g5⟩
    · obtain rfl : C = [] := List.length_eq_zero_iff.1 g3
      exact eqP_nil _ b cap cap' w
    · exact eqP_at a b off off' cap cap' C w h2 h4 g4 h5 g5
end Go.Proofs.Ytbklkhndjckckaa

/- The laws' copies of nodes. -/
namespace Go.Proofs.Ytbklkhndjckckaa
open Go.RowKit
set_option linter.unusedVariables false

/-- A slice of nodes in a block of its own, with lists in blocks of their own, all from B on. -/
def NdO (w : World) (B : Nat) (v : Value) (N : List Nd) : Prop :=
  ∃ g cap cur t, v = .slice (some ⟨g, 0, none⟩) N.length cap ∧ B ≤ g ∧ w.heap[g]? = some (.cells cur t (0, 0)) ∧ N.length ≤ cap ∧ N.length ≤ 2000000 ∧
    ∀ i, i < N.length → cur[i * 4]? = some (.int .i64 (N.getD i nd0).id.1) ∧ cur[i * 4 + 1]? = some (.int .i64 (N.getD i nd0).id.2) ∧ cur[i * 4 + 2]? = some (.int .i64 (N.getD i nd0).seq) ∧ ∃ b u, B ≤ b ∧ b ≠ g ∧ cur[i * 4 + 3]? = some u ∧ OwnP w b u (N.getD i nd0).deps
theorem NdO.read {w : World} {B : Nat} {v : Value} {N : List Nd} (h : NdO w B v N) : Nds w v N := by
  obtain ⟨g, cap, cur, t, rfl, _, hg, h1, h2, h3⟩ := h
  refine ⟨_, cap, rfl, h1, h2, .inr ⟨g, 0, rfl, lt_of_heap hg, fun i hi => ?_⟩⟩
  obtain ⟨c0, c1, c2, b, u, _, _, c3, ho⟩ := h3 i hi
  obtain ⟨uc, rfl, _⟩ := ho.shape
  refine ⟨_, _, uc, ?_, ?_, ?_, ?_, ho.read⟩ <;> rw [Nat.zero_add, cell_of_cells hg] <;> assumption
theorem NdO.up {w w' : World} {B : Nat} {v : Value} {N : List Nd} (h : NdO w B v N) (hb : Below w.heap.size w w') : NdO w' B v N := by
  obtain ⟨g, cap, cur, t, rfl, h0, hg, h1, h2, h3⟩ := h
  refine ⟨g, cap, cur, t, rfl, h0, (hb.block g (lt_of_heap hg)).trans hg, h1, h2, fun i hi => ?_⟩
  obtain ⟨c0, c1, c2, b, u, q1, q2, c3, ho⟩ := h3 i hi
  exact ⟨c0, c1, c2, b, u, q1, q2, c3, ho.up hb ho.lt⟩

theorem info_nd : (Try.prog.info? 33).map (fun i => (i.zero, i.size, i.bytes)) = some (some (.agg #[.int .i64 0, .int .i64 0, .int .i64 0, .slice none 0 0]), 4, 48) := by kernel_rfl
theorem made_nds (n : Nat) (hn : n ≤ 2000000) (w : World) : (Instr.makeSlice 23 (.int .i64 n) (.int .i64 n)).run Try.prog w = .ok (.slice (some ⟨w.heap.size, 0, none⟩) n n) (w.alloc (.cells (madeCells #[.int .i64 0, .int .i64 0, .int .i64 0, .slice none 0 0] (n * 4)) 33)) := by
  obtain ⟨i, hi, hz, hs, hb⟩ := info_parts info_nd
  have hr := run_make (P := Try.prog) w 23 33 i _ Try.underlying23 hi hz .i64 .i64 n n (by omega) (Int.le_refl _) (by rw [hb]; omega) (by omega)
  simp only [Int.toNat_natCast, hs] at hr
  exact hr

theorem hold {w : World} {o x : Obj} {b : Nat} (h : w.heap[b]? = some x) : (w.alloc o).heap[b]? = some x := (Below.heap_alloc _ _ _ (lt_of_heap h)).trans h

theorem nd_res (tm : Array Value) (w : World) (b : Nat) (x y z u : Value) (t : TypeId) (h2 : tm[2]? = some (.pointer (some ⟨b, 0, none⟩))) (h : w.heap[b]? = some (.cells #[x, y, z, u] t (0, 0))) :
    (results Try.f51 tm).run Try.prog w = .ok (.agg #[x, y, z, u]) w := by
  obtain ⟨t0, t1, t2, t3⟩ := four_cells h
  simp [results, Try.results51, go_sem, h2, t0, t1, t2, t3]

/-- A node's copy. -/
def NdCPost (x : Nd) (w : World) (e : Ending) (w' : World) : Prop :=
  ∃ b cap, w.heap.size ≤ b ∧ e = .returned (.agg #[.int .i64 x.id.1, .int .i64 x.id.2, .int .i64 x.seq, .slice (some ⟨b, 0, none⟩) x.deps.length cap]) ∧ OwnP w' b (.slice (some ⟨b, 0, none⟩) x.deps.length cap) x.deps ∧ Below w.heap.size w w'

set_option maxRecDepth 100000 in
set_option maxHeartbeats 2000000 in
theorem toN_any (x : Nd) (u : Value) (w : World) (h : Ids w u x.deps) :
    Calls Try.prog 51 #[ndv x u] w (NdCPost x w) := by
  have sc := fun W (hb : Below w.heap.size w W) => toP_any u x.deps W (h.up hb (Nat.le_refl _))
  obtain ⟨ua, uc, rfl, _⟩ := h
  obtain ⟨⟨p, r⟩, s, C⟩ := x
  unfold NdCPost
  dsimp only [ndv] at sc ⊢
  obtain ⟨n, hn⟩ : ∃ n, Hid (C.length = n) := ⟨_, Lib.hid rfl⟩
  rw [hn.out] at sc ⊢
  have hbox := Lib.hid ((((Below.refl w.heap.size w).alloc (Nat.le_refl _) (.cells #[.int .i64 p, .int .i64 r, .int .i64 s, .slice ua n uc] 78)).alloc (by simp) (.cells #[.int .i64 0, .int .i64 0, .int .i64 0, .slice none 0 0] 33)).alloc (by simp; omega) (.cells #[.int .i64 0, .int .i64 0, .int .i64 0, .slice none 0 0] 33))
  go_enter Try.func51, Try.ntmps51
  go_wp2_with fail
  refine (toId_any p r _).mono ?_
  rintro e w1 ⟨rfl, B⟩
  have D1 := Lib.hid (hbox.out.trans (B.mono hbox.out.size))
  have A1 := Lib.hid ((B.block w.heap.size (by simp; omega)).trans (hold (hold (heap_alloc_new w (.cells #[.int .i64 p, .int .i64 r, .int .i64 s, .slice ua n uc] 78)))))
  have O1 := Lib.hid ((B.block (w.heap.size + 1) (by simp)).trans (hold (heap_alloc_at (w.alloc _) (.cells #[.int .i64 0, .int .i64 0, .int .i64 0, .slice none 0 0] 33) (w.heap.size + 1) (by simp))))
  have V1 := Lib.hid ((B.block (w.heap.size + 1 + 1) (by simp)).trans (heap_alloc_at _ (.cells #[.int .i64 0, .int .i64 0, .int .i64 0, .slice none 0 0] 33) _ (by simp)))
  have s1 := lt_of_heap V1.out
  obtain ⟨a0, a1, a2, a3⟩ := four_cells A1.out
  obtain ⟨v0, v1, v2, v3⟩ := four_cells V1.out
  have f0 := frozen_of_row w1 _ 0 _ _ V1.out
  have f1 := frozen_of_row w1 _ 1 _ _ V1.out
  have f2 := frozen_of_row w1 _ 2 _ _ V1.out
  clear B hbox
  go_wp2_with fail
  have V2 := Lib.hid (heap_setCell_same _ _ 2 _ _ (.int .i64 s) (heap_setCell_same _ _ 1 _ _ (.int .i64 r) (heap_setCell_same _ _ 0 _ _ (.int .i64 p) V1.out)))
  have D2 := Lib.hid (((D1.out.setCell (p := ⟨w.heap.size + 1 + 1, 0, none⟩) (by show w.heap.size ≤ w.heap.size + 1 + 1; omega) (.int .i64 p)).setCell (p := ⟨w.heap.size + 1 + 1, 1, none⟩) (by show w.heap.size ≤ w.heap.size + 1 + 1; omega) (.int .i64 r)).setCell (p := ⟨w.heap.size + 1 + 1, 2, none⟩) (by show w.heap.size ≤ w.heap.size + 1 + 1; omega) (.int .i64 s))
  have O2 := Lib.hid ((heap_setCell_other _ ⟨w.heap.size + 1 + 1, 2, none⟩ (w.heap.size + 1) (.int .i64 s) (by simp)).trans ((heap_setCell_other _ ⟨w.heap.size + 1 + 1, 1, none⟩ (w.heap.size + 1) (.int .i64 r) (by simp)).trans ((heap_setCell_other _ ⟨w.heap.size + 1 + 1, 0, none⟩ (w.heap.size + 1) (.int .i64 p) (by simp)).trans O1.out)))
  clear V1 O1 A1 D1 a0 a1 a2 a3 v0 v1 v2 v3 f0 f1 f2 s1
  refine (sc _ D2.out).mono ?_
  rintro e w2 ⟨b, u, hbu, rfl, hO, B⟩
  obtain ⟨cap, rfl, _⟩ := hO.shape
  rw [hn.out] at hO ⊢
  have D3 := Lib.hid (bstep D2.out B)
  have hble := Lib.hid (Nat.le_trans D2.out.size hbu)
  have hne1 : b ≠ w.heap.size + 1 + 1 := by have := lt_of_heap V2.out; omega
  have hne2 : b ≠ w.heap.size + 1 := by have := lt_of_heap O2.out; omega
  have V3 := Lib.hid (bblk B (lt_of_heap V2.out) V2.out)
  have O3 := Lib.hid (bblk B (lt_of_heap O2.out) O2.out)
  have hO := Lib.hid hO
  clear V2 O2 D2 B hbu sc
  have s3 := lt_of_heap V3.out
  obtain ⟨v0, v1, v2, v3⟩ := four_cells (show w2.heap[w.heap.size + 1 + 1]? = some (.cells #[.int .i64 p, .int .i64 r, .int .i64 s, .slice none 0 0] 33 (0, 0)) from V3.out)
  have f3 := frozen_of_row w2 _ 3 _ _ V3.out
  obtain ⟨o0, o1, o2, o3⟩ := four_cells O3.out
  have g0 := frozen_of_row w2 _ 0 _ _ O3.out
  have g1 := frozen_of_row w2 _ 1 _ _ O3.out
  have g2 := frozen_of_row w2 _ 2 _ _ O3.out
  have g3 := frozen_of_row w2 _ 3 _ _ O3.out
  go_wp2_with fail
  have U : ∀ k ≠ w.heap.size + 1 + 1, k ≠ w.heap.size + 1 → (((((w2.setCell ⟨w.heap.size + 1 + 1, 3, none⟩ (.slice (some ⟨b, 0, none⟩) n cap)).setCell ⟨w.heap.size + 1, 0, none⟩ (.int .i64 p)).setCell ⟨w.heap.size + 1, 1, none⟩ (.int .i64 r)).setCell ⟨w.heap.size + 1, 2, none⟩ (.int .i64 s)).setCell ⟨w.heap.size + 1, 3, none⟩ (.slice (some ⟨b, 0, none⟩) n cap)).heap[k]? = w2.heap[k]? := fun k h1 h2 => by
    rw [heap_setCell_other _ _ _ _ h2, heap_setCell_other _ _ _ _ h2, heap_setCell_other _ _ _ _ h2, heap_setCell_other _ _ _ _ h2, heap_setCell_other _ _ _ _ h1]
  have O4 := heap_setCell_same _ _ 3 _ _ (.slice (some ⟨b, 0, none⟩) n cap) (heap_setCell_same _ _ 2 _ _ (.int .i64 s) (heap_setCell_same _ _ 1 _ _ (.int .i64 r) (heap_setCell_same _ _ 0 _ _ (.int .i64 p) ((heap_setCell_other w2 ⟨w.heap.size + 1 + 1, 3, none⟩ (w.heap.size + 1) (.slice (some ⟨b, 0, none⟩) n cap) (by simp)).trans O3.out))))
  exact bodyPost_ret (nd_res _ _ _ _ _ _ _ _ rfl O4) rfl ⟨b, cap, hble.out, rfl, hO.out.same (U b hne1 hne2), ((((D3.out.setCell (by simp; omega) _).setCell (by simp) _).setCell (by simp) _).setCell (by simp) _).setCell (by simp) _⟩
/-- Copies so far. -/
def NdK (w : World) (B g n k : Nat) (N : List Nd) : Prop :=
  ∃ cur t, w.heap[g]? = some (.cells cur t (0, 0)) ∧ cur.size = n * 4 ∧
    ∀ i, i < k → cur[i * 4]? = some (.int .i64 (N.getD i nd0).id.1) ∧ cur[i * 4 + 1]? = some (.int .i64 (N.getD i nd0).id.2) ∧ cur[i * 4 + 2]? = some (.int .i64 (N.getD i nd0).seq) ∧ ∃ b u, B ≤ b ∧ b ≠ g ∧ cur[i * 4 + 3]? = some u ∧ OwnP w b u (N.getD i nd0).deps
theorem NdK.lt {w : World} {B g n k : Nat} {N : List Nd} (h : NdK w B g n k N) : g < w.heap.size := by obtain ⟨cur, t, h, _⟩ := h; exact lt_of_heap h
theorem NdK.up {w w' : World} {B g n k : Nat} {N : List Nd} (h : NdK w B g n k N) (hb : Below w.heap.size w w') : NdK w' B g n k N := by
  obtain ⟨cur, t, h1, h2, h3⟩ := h
  refine ⟨cur, t, (hb.block g (lt_of_heap h1)).trans h1, h2, fun i hi => ?_⟩
  obtain ⟨c0, c1, c2, b, u, q1, q2, c3, ho⟩ := h3 i hi
  exact ⟨c0, c1, c2, b, u, q1, q2, c3, ho.up hb ho.lt⟩
theorem NdK.old {w : World} {B g n k : Nat} {N : List Nd} (h : NdK w B g n k N) {j : Nat} (hj : j < n * 4) : (∃ y, w.cell? ⟨g, j, none⟩ = some y) ∧ w.frozen? ⟨g, j, none⟩ = false := by
  obtain ⟨cur, t, h1, h2, _⟩ := h
  exact ⟨⟨_, (cell_of_cells h1).trans (Array.getElem?_eq_getElem (by omega))⟩, frozen_of_row w g j _ _ h1⟩
theorem NdK.put {w : World} {B g n k : Nat} {N : List Nd} (h : NdK w B g n k N) (hk : k < n) {b : Nat} {u : Value} (hB : B ≤ b) (hbg : b ≠ g) (ho : OwnP w b u (N.getD k nd0).deps) :
    NdK ((((w.setCell ⟨g, k * 4, none⟩ (.int .i64 (N.getD k nd0).id.1)).setCell ⟨g, k * 4 + 1, none⟩ (.int .i64 (N.getD k nd0).id.2)).setCell ⟨g, k * 4 + 2, none⟩ (.int .i64 (N.getD k nd0).seq)).setCell ⟨g, k * 4 + 3, none⟩ u) B g n (k + 1) N := by
  obtain ⟨cur, t, h1, h2, h3⟩ := h
  have H := heap_setCell_same _ _ (k * 4 + 3) _ _ u (heap_setCell_same _ _ (k * 4 + 2) _ _ (.int .i64 (N.getD k nd0).seq) (heap_setCell_same _ _ (k * 4 + 1) _ _ (.int .i64 (N.getD k nd0).id.2) (heap_setCell_same _ _ (k * 4) _ _ (.int .i64 (N.getD k nd0).id.1) h1)))
  have U : ∀ j, j ≠ g → ((((w.setCell ⟨g, k * 4, none⟩ (.int .i64 (N.getD k nd0).id.1)).setCell ⟨g, k * 4 + 1, none⟩ (.int .i64 (N.getD k nd0).id.2)).setCell ⟨g, k * 4 + 2, none⟩ (.int .i64 (N.getD k nd0).seq)).setCell ⟨g, k * 4 + 3, none⟩ u).heap[j]? = w.heap[j]? := fun j hj => by
    rw [heap_setCell_other _ _ _ _ hj, heap_setCell_other _ _ _ _ hj, heap_setCell_other _ _ _ _ hj, heap_setCell_other _ _ _ _ hj]
  refine ⟨_, t, H, by simpa using h2, fun i hi => ?_⟩
  by_cases e : i = k
  · subst e
    refine ⟨?_, ?_, ?_, b, u, hB, hbg, ?_, ho.same (U b hbg)⟩
    · rw [Array.getElem?_setIfInBounds, if_neg (by omega), Array.getElem?_setIfInBounds, if_neg (by omega), Array.getElem?_setIfInBounds, if_neg (by omega), Array.getElem?_setIfInBounds, if_pos rfl, if_pos (by omega)]
    · rw [Array.getElem?_setIfInBounds, if_neg (by omega), Array.getElem?_setIfInBounds, if_neg (by omega), Array.getElem?_setIfInBounds, if_pos rfl, if_pos (by simp; omega)]
    · rw [Array.getElem?_setIfInBounds, if_neg (by omega), Array.getElem?_setIfInBounds, if_pos rfl, if_pos (by simp; omega)]
    · rw [Array.getElem?_setIfInBounds, if_pos rfl, if_pos (by simp; omega)]
  · obtain ⟨c0, c1, c2, b', u', q1, q2, c3, ho'⟩ := h3 i (by omega)
    refine ⟨?_, ?_, ?_, b', u', q1, q2, ?_, ho'.same (U b' q2)⟩ <;>
      (rw [Array.getElem?_setIfInBounds, if_neg (by omega), Array.getElem?_setIfInBounds, if_neg (by omega), Array.getElem?_setIfInBounds, if_neg (by omega), Array.getElem?_setIfInBounds, if_neg (by omega)]; assumption)
theorem ndK_made (w : World) (n : Nat) (N : List Nd) (t : TypeId) : NdK (w.alloc (.cells (madeCells #[.int .i64 0, .int .i64 0, .int .i64 0, .slice none 0 0] (n * 4)) t)) w.heap.size w.heap.size n 0 N :=
  ⟨_, t, heap_alloc_new w _, by simp [madeCells], fun i hi => absurd hi (Nat.not_lt_zero _)⟩

/-- What toNodeS leaves. -/
def NdsCPost (N : List Nd) (w : World) (e : Ending) (w' : World) : Prop := ∃ v, e = .returned v ∧ NdO w' w.heap.size v N ∧ Below w.heap.size w w'

set_option maxRecDepth 100000 in
set_option maxHeartbeats 2000000 in
theorem toNs_at (b off ca : Nat) (N : List Nd) (w : World) (hb : b < w.heap.size) (hm : N.length ≤ 2000000) (h : ∀ i, i < N.length → NdIn w b (off + i * 4) (N.getD i nd0)) :
    Calls Try.prog 22 #[.slice (some ⟨b, off, none⟩) N.length ca] w (NdsCPost N w) := by
  have hmk := made_nds N.length hm
  have h := Lib.hid h
  have hO := Lib.hid (ndK_made w N.length N 33)
  obtain ⟨n, hn⟩ : ∃ n, Hid (N.length = n) := ⟨_, Lib.hid rfl⟩
  rw [hn.out] at hmk hm hO ⊢
  go_enter Try.func22, Try.ntmps22
  go_wp2_with fail
  clear hmk
  go_loopw [4] (fun i wr => ∃ k : Nat, k ≤ n ∧ i = .int .i64 k ∧ Hid (NdK wr w.heap.size w.heap.size n k N) ∧ Below w.heap.size w wr) (fun i _ => n - (intOf i).toNat)
  case atStart => exact ⟨0, Nat.zero_le _, rfl, hO, (Below.refl _ _).alloc (Nat.le_refl _) _⟩
  case round =>
    obtain ⟨k, hk, rfl, hM, hnx⟩ := hrel
    clear hO
    by_cases hlt : k < n
    · obtain ⟨ua, un, uc, h0, h1, h2, h3, h4⟩ := h.out k (by rw [hn.out]; exact hlt)
      have q0 := (hnx.cell (p := ⟨b, off + k * 4, none⟩) hb).trans h0
      have q1 := (hnx.cell (p := ⟨b, off + k * 4 + 1, none⟩) hb).trans h1
      have q2 := (hnx.cell (p := ⟨b, off + k * 4 + 2, none⟩) hb).trans h2
      have q3 := (hnx.cell (p := ⟨b, off + k * 4 + 3, none⟩) hb).trans h3
      have sc := toN_any (N.getD k nd0) (.slice ua un uc) wr (h4.up hnx (Nat.le_refl _))
      clear h0 h1 h2 h3 h4
      have put := Lib.hid (fun (W : World) (H : NdK W w.heap.size w.heap.size n k N) (b : Nat) (u : Value) => NdK.put (b := b) (u := u) H hlt)
      unfold NdCPost ndv at sc
      generalize N.getD k nd0 = x at q0 q1 q2 put sc
      obtain ⟨⟨p, r⟩, s, C⟩ := x
      dsimp only at q0 q1 q2 sc
      have hnx := Lib.hid hnx
      have hs := Lib.hid hM.out.lt
      go_wp2_with fail
      refine sc.mono ?_
      rintro e w1 ⟨b1, cap, hb1, rfl, hO1, B⟩
      have hK := hM.out.up B
      obtain ⟨⟨y0, d0⟩, f0⟩ := hK.old (j := k * 4) (by omega)
      obtain ⟨⟨y1, d1⟩, f1⟩ := hK.old (j := k * 4 + 1) (by omega)
      obtain ⟨⟨y2, d2⟩, f2⟩ := hK.old (j := k * 4 + 2) (by omega)
      obtain ⟨⟨y3, d3⟩, f3⟩ := hK.old (j := k * 4 + 3) (by omega)
      have hs1 := hK.lt
      have R := Lib.hid (put.out w1 hK b1 _ (Nat.le_trans hnx.out.size hb1) (by have := hs.out; omega) hO1)
      have D1 := Lib.hid (hnx.out.trans (B.mono hnx.out.size))
      clear hM h hO1 B hnx q0 q1 q2 q3 hs hK sc put hb1
      go_wp2_with fail
      go_roundw
      case rel => exact ⟨k + 1, by omega, by go_num, Lib.hid R.out, (((D1.out.setCell (by simp) _).setCell (by simp) _).setCell (by simp) _).setCell (by simp) _⟩
      case measure => simp [intOf]; omega
    · obtain rfl : k = n := by omega
      have hnx := Lib.hid hnx
      clear h
      go_wp2_with fail
      go_ret
      refine ⟨_, rfl, ?_, hnx.out⟩
      obtain ⟨cur, t, h1, h2, h3⟩ := hM.out
      exact ⟨w.heap.size, k, cur, t, by have e := hn.out; subst e; rfl, Nat.le_refl _, h1, by rw [hn.out]; exact Nat.le_refl _, by rw [hn.out]; exact hm, fun i hi => h3 i (by rw [← hn.out]; exact hi)⟩

set_option maxRecDepth 100000 in
theorem toNs_nil (a : Option Addr) (ca : Nat) (w : World) :
    Calls Try.prog 22 #[.slice a 0 ca] w (NdsCPost [] w) := by
  have hmk : ∀ w : World, (Instr.makeSlice 23 (.int .i64 0) (.int .i64 0)).run Try.prog w = .ok (.slice (some ⟨w.heap.size, 0, none⟩) 0 0) (w.alloc (.cells (madeCells #[.int .i64 0, .int .i64 0, .int .i64 0, .slice none 0 0] (0 * 4)) 33)) := made_nds 0 (by omega)
  have hO := Lib.hid (ndK_made w 0 [] 33)
  go_enter Try.func22, Try.ntmps22
  go_wp2_with fail
  refine wp_loop_rounds 1 ?_
  rw [rounds_succ]
  go_wp2_with fail
  go_ret
  obtain ⟨cur, t, h1, h2, h3⟩ := hO.out
  exact ⟨_, rfl, ⟨_, 0, cur, t, rfl, Nat.le_refl _, h1, Nat.le_refl _, Nat.zero_le _, h3⟩, (Below.refl _ _).alloc (Nat.le_refl _) _⟩

/-- A COPY OF NODES. -/
theorem toNs_any (u : Value) (N : List Nd) (w : World) (h : Nds w u N) :
    Calls Try.prog 22 #[u] w (NdsCPost N w) := by
  obtain ⟨a, cap, rfl, h1, h2, h3⟩ := h
  rcases h3 with h3 | ⟨b, off, rfl, h4, h5⟩
  · obtain rfl : N = [] := List.length_eq_zero_iff.1 h3
    exact toNs_nil a cap w
  · exact toNs_at b off cap N w h4 h2 h5
end Go.Proofs.Ytbklkhndjckckaa

/- The model's l5Reach. -/
namespace Go.Proofs.Ytbklkhndjckckaa
open Go.RowKit
set_option linter.unusedVariables false

theorem infoQ : (Try.prog.info? 31).map (fun i => (i.zero, i.size, i.bytes)) = some (some (.agg #[.int .i64 0, .int .i64 0]), 2, 16) := by kernel_rfl

theorem own_nilQ {w : World} {b : Nat} {t : TypeId} (h : w.heap[b]? = some (.cells #[] t (0, 0))) : OwnP w b (.slice (some ⟨b, 0, none⟩) 0 0) [] := ⟨0, _, t, rfl, h, Nat.le_refl _, Nat.zero_le _, fun i hi => absurd hi (Nat.not_lt_zero _)⟩
/-- How much is left, by the values. -/
def lenV : Value → Nat
  | .slice _ n _ => n
  | _ => 0
/-- What is reached, in memory of its own. -/
def RchP (L : List Pid) (w : World) (e : Ending) (w' : World) : Prop := ∃ b v, w.heap.size ≤ b ∧ e = .returned v ∧ OwnP w' b v L ∧ Below w.heap.size w w'

/-- Where the search is. -/
structure RS (N : List Nd) (a : Pid) (w wr : World) (vO vT : Value) (O T : List Pid) (bO gT : Nat) : Prop where
  out : OwnP wr bO vO O
  todo : Que wr gT vT T
  ne : bO ≠ gT
  bo : w.heap.size ≤ bO
  bt : w.heap.size ≤ gT
  bel : Below w.heap.size w wr
  rq : Rq N a O T
  ml : mu O T ≤ 200
theorem RS.up {N : List Nd} {a : Pid} {w wr w' : World} {vO vT : Value} {O T : List Pid} {bO gT : Nat} (h : RS N a w wr vO vT O T bO gT) (hb : Below wr.heap.size wr w') : RS N a w w' vO vT O T bO gT :=
  ⟨h.out.up hb h.out.lt, h.todo.up hb, h.ne, h.bo, h.bt, h.bel.trans (hb.mono h.bel.size), h.rq, h.ml⟩
theorem OwnP.at00 {w : World} {b : Nat} {u : Value} {C : List Pid} (h : OwnP w b u C) : ∀ i, i < C.length → w.cell? ⟨b, 0 + i * 2, none⟩ = some (.int .i64 (C.getD i nop).1) ∧ w.cell? ⟨b, 0 + i * 2 + 1, none⟩ = some (.int .i64 (C.getD i nop).2) := fun i hi => by
  have := h.cell i hi
  rw [Nat.zero_add]; exact this
theorem mu_skip {O T : List Pid} {b : Pid} (h : mu O (b :: T) ≤ 200) : mu O T ≤ 200 := by simp only [mu, List.length_cons] at h ⊢; omega
theorem mu_tl (N : List Nd) (O T : List Pid) (b : Pid) : 13 * (12 - O.length) + T.length < 13 * (12 - O.length) + (b :: T).length := by simp
theorem Rq.tlen {N : List Nd} (hv : nodB N = true) {a : Pid} {O T : List Pid} (h : Rq N a O T) : O.length ≤ 12 := Nat.le_trans (h.len hv) (nod_of hv).1

set_option maxRecDepth 100000 in
set_option maxHeartbeats 4000000 in
theorem srch_at (g off cp : Nat) (N : List Nd) (U : Us) (x y : Int) (w : World) (hv : nodB N = true) (hA : NdAt w g off N U) (hcp : N.length ≤ cp) :
    Calls Try.prog 59 #[.slice (some ⟨g, off, none⟩) N.length cp, .agg #[.int .i64 x, .int .i64 y]] w (RchP (selP N (Rp (EI N) (x, y))) w) := by
  have hNl := (nod_of hv).1
  have sat := fun p q W (hb : Below w.heap.size w W) => sat_at g off cp N p q W (Nat.lt_of_lt_of_le hA.lt hb.size) (by omega) (hA.up hb (Nat.le_refl _)).ins
  obtain ⟨i0, hi, hz0, hz1, hz2⟩ := info_parts infoQ
  have hv := Lib.hid hv
  have hA := Lib.hid hA
  obtain ⟨nn, hnn⟩ : ∃ n, Hid (N.length = n) := ⟨_, Lib.hid rfl⟩
  rw [hnn.out] at sat hNl ⊢
  have D0 := Lib.hid ((((Below.refl w.heap.size w).alloc (Nat.le_refl _) (.cells #[.int .i64 x, .int .i64 y] 31)).alloc (by simp) (.cells #[] 31)))
  go_enter Try.func59, Try.ntmps59
  go_wp2_with fail
  refine (sat x y _ D0.out).mono ?_
  rintro e w1 ⟨⟨z, rfl, hz⟩, B⟩
  have D1 := Lib.hid (bstep D0.out B)
  have hO := Lib.hid ((B.block (w.heap.size + 1) (by simp)).trans (heap_alloc_at _ (.cells #[] 31) (w.heap.size + 1) (by simp)))
  clear B D0
  rcases hz with ⟨rfl, hno⟩ | ⟨k, rfl, hk, hki⟩
  · have hnil : selP N (Rp (EI N) (x, y)) = [] := List.eq_nil_iff_forall_not_mem.2 fun b hb => hno (rp_l (mem_selP.1 hb).2)
    go_wp2_with fail
    go_ret
    exact ⟨w.heap.size + 1, .slice (some ⟨w.heap.size + 1, 0, none⟩) 0 0, by omega, rfl, by rw [hnil]; exact own_nilQ hO.out, D1.out⟩
  · rw [hnn.out] at hk
    have hA1 := Lib.hid (hA.out.up D1.out (Nat.le_refl _))
    have hids := hA1.out.ids k (by rw [hnn.out]; exact hk)
    obtain ⟨_, _, _, x3⟩ := hA1.out.cell k (by rw [hnn.out]; exact hk)
    have hgl := hA1.out.lt
    have kz : ¬ ((k : Int) < 0) := by omega
    obtain ⟨ua, hua⟩ : ∃ u, U k = u := ⟨_, rfl⟩
    rw [hua] at hids x3
    obtain ⟨ua, un, uc⟩ := ua
    dsimp only at hids x3
    go_wp2_with (at_builtin; refine wpList_append_que _ rfl _ _ 25 rfl w1.heap.size i0 Try.underlying25 hi hz0 hz1 hz2 _ _ [] (N.getD k nd0).deps rfl rfl (que_new w1) (hids.up ((Below.refl _ _).alloc (Nat.le_refl _) _) (Nat.le_refl _)) ?c1 ?_)
    case c1 => have := nod_dlen hv.out (k := k) (by rw [hnn.out]; exact hk); rw [List.length_nil]; omega
    intro vT w2 gT hap
    obtain ⟨hgT, hQ, hE⟩ := hap.out
    have hkn : k < N.length := by rw [hnn.out]; exact hk
    have hR : Hid (RS N (x, y) w w2 (.slice (some ⟨w.heap.size + 1, 0, none⟩) 0 0) vT [] (N.getD k nd0).deps (w.heap.size + 1) gT) := by
      have hs := lt_of_heap hO.out
      have hal : (w1.alloc (.cells #[] 31)).heap.size = w1.heap.size + 1 := by simp
      refine Lib.hid ⟨?_, hQ, by omega, by omega, by omega, ?_, by rw [← hki]; exact Rq.start hv.out (getD_mem hkn), by have := nod_dlen hv.out hkn; simp only [mu, List.length_nil]; omega⟩
      · refine own_nilQ ((hE.block _ (by rw [hal]; omega) (by omega)).trans (hold hO.out))
      · exact D1.out.trans ((((Below.refl w1.heap.size w1).alloc (Nat.le_refl _) _).trans (hE.to (B := w1.heap.size) (by rw [hal]; omega) (fun b hb => by omega))).mono D1.out.size)
    clear hO hids x3 hA1 hgl hQ hE hgT hap D1
    go_wp2_with fail
    go_loopw [5, 7] (fun vO vT wr => ∃ (O T : List Pid) (bO gT : Nat), Hid (RS N (x, y) w wr vO vT O T bO gT)) (fun vO vT _ => 13 * (12 - lenV vO) + lenV vT)
    case atStart => exact ⟨_, _, _, _, hR⟩
    case round =>
      clear hR
      obtain ⟨O, T, bO, gT, hR⟩ := hrel
      obtain ⟨oc, rfl, _⟩ := hR.out.out.shape
      obtain ⟨tf, tc, rfl, htc⟩ := hR.out.todo.shape
      have ho12 := hR.out.rq.tlen hv.out
      cases T with
      | nil =>
        have hdone := hR.out.rq.done hv.out
        go_wp2_with fail
        go_ret
        exact ⟨bO, _, hR.out.bo, rfl, by rw [← hdone]; exact hR.out.out, hR.out.bel⟩
      | cons d T =>
        obtain ⟨tf', tc', e, ht2, ht3, ht4, ht5, ht6⟩ := hR.out.todo
        injection e with e1 e2 e3
        injection e1 with e1
        injection e1 with _ e4
        subst e4; subst e3
        obtain ⟨p, q⟩ := d
        have t0 : wr.cell? ⟨gT, tf, none⟩ = some (.int .i64 p) := ht5 0 (by simp)
        have t1 : wr.cell? ⟨gT, tf + 1, none⟩ = some (.int .i64 q) := ht5 1 (by rw [List.length_cons]; omega)
        clear ht4 ht5 ht6 e2
        have hpop := hR.out.todo.pop
        obtain ⟨tn, htn⟩ : ∃ n, Hid (T.length = n) := ⟨_, Lib.hid rfl⟩
        simp only [List.length_cons] at htc ht3 hpop ⊢
        rw [htn.out] at htc ht3 hpop ⊢
        have hcase : (∃ f c, f = tf ∧ c = 0 ∧ tc = 1 ∧ tn = 0 ∧ Hid (Que wr gT (.slice (some ⟨gT, f, none⟩) tn c) T)) ∨ (∃ f c, f = tf + 2 ∧ c = tc - 1 ∧ tc ≠ 1 ∧ Hid (Que wr gT (.slice (some ⟨gT, f, none⟩) tn c) T)) := by
          by_cases h1 : tc = 1
          · exact .inl ⟨_, _, rfl, rfl, h1, by omega, Lib.hid (hpop.2 h1)⟩
          · exact .inr ⟨_, _, rfl, rfl, h1, Lib.hid (hpop.1 h1)⟩
        clear hpop
        have hbel := hR.out.bel
        have DW := Lib.hid (hbel.alloc hbel.size (.cells #[.int .i64 p, .int .i64 q] 31))
        have hws := hbel.size
        have hI := Lib.hid (heap_alloc_new wr (.cells #[.int .i64 p, .int .i64 q] 31))
        clear hbel
        have hdl := fun (k' : Nat) (hk' : k' < nn) => nod_dlen hv.out (k := k') (by rw [hnn.out]; exact hk')
        rcases hcase with ⟨f, c, rfl, rfl, h1, h2, hQ⟩ | ⟨f, c, rfl, rfl, h1, hQ⟩
        case' inl => subst h1; subst h2
        all_goals
          go_wp2_with fail
          refine (sat p q _ DW.out).mono ?_
          rintro e w3 ⟨⟨z, rfl, hz⟩, B⟩
          have Bw : Below wr.heap.size wr w3 := bstep ((Below.refl wr.heap.size wr).alloc (Nat.le_refl _) _) B
          have hI := Lib.hid (bblk B (by simp) hI.out)
          have R3 := Lib.hid (show OwnP w3 bO _ O ∧ Que w3 gT _ T ∧ Below w.heap.size w w3 from ⟨hR.out.out.up Bw hR.out.out.lt, hQ.out.up Bw, bstep DW.out B⟩)
          clear B Bw hQ t0 t1 DW
          rcases hz with ⟨rfl, hno⟩ | ⟨k', rfl, hk', hki'⟩
          · have R4 := Lib.hid (show RS N (x, y) w w3 _ _ O T bO gT from ⟨R3.out.1, R3.out.2.1, hR.out.ne, hR.out.bo, hR.out.bt, R3.out.2.2, hR.out.rq.skip (.inl hno), mu_skip hR.out.ml⟩)
            clear R3 hR hno
            go_wp2_with fail
            exact ⟨⟨_, _, _, _, R4⟩, by simp [lenV]⟩
          · rw [hnn.out] at hk'
            have kz' : ¬ ((k' : Int) < 0) := by omega
            have kz2 : (0 : Int) ≤ k' := by omega
            have hA3 := Lib.hid (hA.out.up R3.out.2.2 (Nat.le_refl _))
            have sh := shas_any (.slice (some ⟨bO, 0, none⟩) O.length oc) O p q w3 R3.out.1.read
            obtain ⟨i1, i2, _, _⟩ := blk2 hI.out
            have hlt := lt_of_heap hI.out
            cases hh : hasP O (p, q) with
            | true =>
              rw [hh] at sh
              have R4 := Lib.hid (show RS N (x, y) w w3 _ _ O T bO gT from ⟨R3.out.1, R3.out.2.1, hR.out.ne, hR.out.bo, hR.out.bt, R3.out.2.2, hR.out.rq.skip (.inr (by simpa [hasP] using hh)), mu_skip hR.out.ml⟩)
              clear R3 hR
              go_wp2_with fail
              refine sh.mono ?_
              rintro e w4 ⟨rfl, B⟩
              have R5 := Lib.hid (R4.out.up B)
              clear R4 B sh
              go_wp2_with fail
              exact ⟨⟨_, _, _, _, R5⟩, by simp [lenV]⟩
            | false =>
              rw [hh] at sh
              have hno : ¬ (p, q) ∈ O := by simpa [hasP] using hh
              go_wp2_with fail
              refine sh.mono ?_
              rintro e w4 ⟨rfl, B⟩
              obtain ⟨i1, i2, _, _⟩ := blk2 (bblk B hlt hI.out)
              have hlt4 := Nat.lt_of_lt_of_le hlt B.size
              have R4 := Lib.hid (show OwnP w4 bO _ O ∧ Que w4 gT _ T ∧ Below w.heap.size w w4 from ⟨R3.out.1.up B R3.out.1.lt, R3.out.2.1.up B, bstep R3.out.2.2 B⟩)
              have sp := sput_at bO 0 oc O p q w4 R4.out.1.lt (by omega) R4.out.1.at00
              clear R3 B sh hI
              go_wp2_with fail
              refine sp.mono ?_
              rintro e w5 ⟨b', u, hb', rfl, hO2, B⟩
              have hkN : k' < N.length := by rw [hnn.out]; exact hk'
              have hput := hR.out.rq
              have hmu := hR.out.ml
              rw [← hki'] at hput hmu hno
              have hmul := mu_put hv.out hput (getD_mem hkN) hno (hdl k' (by omega))
              have hput := hput.put hv.out (getD_mem hkN)
              rw [hki'] at hput hmul hmu
              obtain ⟨O', hO'⟩ : ∃ L, Hid (putP O (p, q) = L) := ⟨_, Lib.hid rfl⟩
              rw [hO'.out] at hO2 hput hmul
              have h6 := hR.out.bt
              have h7 := R4.out.2.1.lt
              have D5 := Lib.hid (bstep R4.out.2.2 B)
              have hs45 := B.size
              have hs4 := R4.out.2.2.size
              have R5 := Lib.hid (show OwnP w5 b' u O' ∧ Que w5 gT _ T from ⟨hO2, R4.out.2.1.up B⟩)
              obtain ⟨c', rfl, _⟩ := hO2.shape
              have hA5 := Lib.hid (hA.out.up D5.out (Nat.le_refl _))
              have hids := hA5.out.ids k' hkN
              obtain ⟨_, _, _, x3⟩ := hA5.out.cell k' hkN
              have hgl5 := hA5.out.lt
              obtain ⟨ua', hua'⟩ : ∃ u, U k' = u := ⟨_, rfl⟩
              rw [hua'] at hids x3
              obtain ⟨ua', un', uc'⟩ := ua'
              dsimp only at hids x3
              have hdk := hdl k' (by omega)
              obtain ⟨Dk, hDk⟩ : ∃ L, Hid ((N.getD k' nd0).deps = L) := ⟨_, Lib.hid rfl⟩
              rw [hDk.out] at hids hput hmul hdk
              have hlen : T.length + Dk.length ≤ 1000000 := by
                simp only [mu, List.length_cons] at hmu
                omega
              obtain ⟨F, hF⟩ : ∃ L, Hid (T ++ Dk = L) := ⟨_, Lib.hid rfl⟩
              have hgoal := Lib.hid (fun (v' : Value) (w6 : World) (g' : Nat) (hx : (g' = gT ∨ w5.heap.size ≤ g') ∧ Que w6 g' v' (T ++ Dk) ∧ Exc (fun b => b = gT) w5 w6) =>
                show RS N (x, y) w w6 (.slice (some ⟨b', 0, none⟩) O'.length c') v' O' F b' g' from
                ⟨hO2.same (hx.2.2.block b' hO2.lt (by omega)), by rw [← hF.out]; exact hx.2.1, by have := hO2.lt; rcases hx.1 with h | h <;> omega, by omega, by rcases hx.1 with h | h <;> omega, D5.out.trans (hx.2.2.to D5.out.size (fun b hb => by omega)), by rw [← hF.out]; exact hput, by rw [← hF.out]; omega⟩)
              have hms : Hid (mu O' F < mu O ((p, q) :: T)) := Lib.hid (by rw [← hF.out]; exact hmul)
              have hQ5 := R5.out.2
              clear R4 B sp hput hmul hR hO2 hno hh R5
              go_wp2_with (at_builtin; refine wpList_append_que _ rfl _ _ 25 rfl gT i0 Try.underlying25 hi hz0 hz1 hz2 _ _ T Dk rfl rfl hQ5 hids hlen ?_)
              intro v' w6 g' hap
              have R6 := Lib.hid (hgoal.out v' w6 g' hap.out)
              obtain ⟨of, oc', rfl, _⟩ := R6.out.todo.shape
              clear hgoal hap hQ5 hids
              go_wp2_with fail
              refine ⟨⟨_, _, _, _, R6⟩, ?_⟩
              have := hms.out
              have := htn.out
              simp only [mu, List.length_cons, lenV] at *
              omega

set_option maxRecDepth 100000 in
theorem srch_nil (a : Option Addr) (cp : Nat) (x y : Int) (w : World) :
    Calls Try.prog 59 #[.slice a 0 cp, .agg #[.int .i64 x, .int .i64 y]] w (RchP (selP [] (Rp (EI []) (x, y))) w) := by
  have D0 := Lib.hid ((((Below.refl w.heap.size w).alloc (Nat.le_refl _) (.cells #[.int .i64 x, .int .i64 y] 31)).alloc (by simp) (.cells #[] 31)))
  go_enter Try.func59, Try.ntmps59
  go_wp2_with fail
  refine (sat_nil a cp x y _).mono ?_
  rintro e w1 ⟨⟨z, rfl, hz⟩, B⟩
  have D1 := Lib.hid (bstep D0.out B)
  have hO := Lib.hid ((B.block (w.heap.size + 1) (by simp)).trans (heap_alloc_at _ (.cells #[] 31) (w.heap.size + 1) (by simp)))
  clear B D0
  rcases hz with ⟨rfl, hno⟩ | ⟨k, rfl, hk, hki⟩
  · go_wp2_with fail
    go_ret
    exact ⟨w.heap.size + 1, .slice (some ⟨w.heap.size + 1, 0, none⟩) 0 0, by omega, rfl, own_nilQ hO.out, D1.out⟩
  · exact absurd hk (Nat.not_lt_zero _)

/-- THE MODEL'S REACH. -/
theorem srch_any (u : Value) (N : List Nd) (x y : Int) (w : World) (hv : nodB N = true) (h : Nds w u N) :
    Calls Try.prog 59 #[u, .agg #[.int .i64 x, .int .i64 y]] w (RchP (selP N (Rp (EI N) (x, y))) w) := by
  obtain ⟨a, cap, rfl, h1, h2, h3⟩ := h
  rcases h3 with h3 | ⟨b, off, rfl, h4, h5⟩
  · obtain rfl : N = [] := List.length_eq_zero_iff.1 h3
    exact srch_nil a cap x y w
  · obtain ⟨U, hA⟩ := NdAt.of h4 h5
    exact srch_at b off cap N U x y w hv hA h1
end Go.Proofs.Ytbklkhndjckckaa
