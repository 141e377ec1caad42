/- Texts laid together. -/
import Derived.Test.YtigaepbhbfpijaaDoorC01
import Derived.Test.YtigaepbhbfpijaaDoorC02
import Derived.Deep.RegionWith
/- The laws' copies, comparisons and marks of slices of ids. -/
namespace Go.Proofs.YtigaepbhbfpijaaDoor
open Go.RowKit
set_option linter.unusedVariables false

theorem madeP (n j : Nat) (h : j < n * 2) : (madeCells #[.int .i64 0, .int .i64 0] (n * 2))[j]? = some (.int .i64 0) := by
  unfold madeCells
  rw [Array.getElem?_map, Array.getElem?_range]
  rw [if_pos h]
  have : j % 2 = 0 ∨ j % 2 = 1 := by omega
  rcases this with e | e <;> simp [e]

theorem repP_get (n i : Nat) : (List.replicate n nop).getD i nop = nop := by
  rw [List.getD_eq_getElem?_getD, List.getElem?_replicate]
  split <;> rfl

theorem ownP_made (w : World) (n : Nat) (hn : n ≤ 2000000) (t : TypeId) : OwnP (w.alloc (.cells (madeCells #[.int .i64 0, .int .i64 0] (n * 2)) t)) w.heap.size (.slice (some ⟨w.heap.size, 0, none⟩) n n) (List.replicate n nop) := by
  refine ⟨n, _, t, by simp, heap_alloc_new w _, by simp, by simpa using hn, fun i hi => ?_⟩
  rw [List.length_replicate] at hi
  rw [madeP n _ (by omega), madeP n _ (by omega), repP_get]
  exact ⟨rfl, rfl⟩

theorem info_id : (Tryd.prog.info? 31).map (fun i => (i.zero, i.size, i.bytes)) = some (some (.agg #[.int .i64 0, .int .i64 0]), 2, 16) := by kernel_rfl

theorem made_ids (n : Nat) (hn : n ≤ 2000000) (w : World) : (Instr.makeSlice 23 (.int .i64 n) (.int .i64 n)).run Tryd.prog w = .ok (.slice (some ⟨w.heap.size, 0, none⟩) n n) (w.alloc (.cells (madeCells #[.int .i64 0, .int .i64 0] (n * 2)) 31)) := by
  obtain ⟨i, hi, hz, hs, hb⟩ := info_parts info_id
  have hr := run_make (P := Tryd.prog) w 23 31 i _ Tryd.underlying23 hi hz .i64 .i64 n n (by omega) (Int.le_refl _) (by rw [hb]; omega) (by omega)
  simp only [Int.toNat_natCast, hs] at hr
  exact hr

theorem id_same {A B : List Pid} (hl : A.length = B.length) (h : ∀ j, j < A.length → A.getD j nop = B.getD j nop) : A = B := by
  apply List.ext_getElem hl
  intro i h1 h2
  have := h i h1
  rw [List.getD_eq_getElem?_getD, List.getD_eq_getElem?_getD, List.getElem?_eq_getElem h1, List.getElem?_eq_getElem h2] at this
  simpa using this
theorem id_up {M C : List Pid} {k : Nat} (hM : k < M.length) (h : ∀ j, j < k → M.getD j nop = C.getD j nop) : ∀ j, j < k + 1 → (M.set k (C.getD k nop)).getD j nop = C.getD j nop := by
  intro j hj
  by_cases e : j = k
  · subst e; rw [List.getD_eq_getElem?_getD, List.getElem?_set_self hM]; rfl
  · rw [List.getD_eq_getElem?_getD, List.getElem?_set_ne (fun x => e x.symm), ← List.getD_eq_getElem?_getD]; exact h j (by omega)

/-- What toIdS leaves: a copy in a block of its own. -/
def CopPPost (C : List Pid) (w : World) (e : Ending) (w' : World) : Prop :=
  ∃ b u, w.heap.size ≤ b ∧ e = .returned u ∧ OwnP w' b u C ∧ Below w.heap.size w w'

set_option maxRecDepth 100000 in
set_option maxHeartbeats 2000000 in
theorem toP_at (b off ca : Nat) (C : List Pid) (w : World) (hb : b < w.heap.size) (hm : C.length ≤ 2000000) (h : ∀ i, i < C.length → w.cell? ⟨b, off + i * 2, none⟩ = some (.int .i64 (C.getD i nop).1) ∧ w.cell? ⟨b, off + i * 2 + 1, none⟩ = some (.int .i64 (C.getD i nop).2)) :
    Calls Tryd.prog 25 #[.slice (some ⟨b, off, none⟩) C.length ca] w (CopPPost C w) := by
  have hmk := made_ids C.length hm
  have h := Lib.hid h
  have hO := Lib.hid (ownP_made w C.length hm 31)
  obtain ⟨n, hn⟩ : ∃ n, Hid (C.length = n) := ⟨_, Lib.hid rfl⟩
  rw [hn.out] at hmk hm hO ⊢
  go_enter Tryd.func25, Tryd.ntmps25
  go_wp2_with fail
  clear hmk
  go_loopw [4] (fun i wr => ∃ k : Nat, k ≤ n ∧ i = .int .i64 k ∧ ∃ M : List Pid, Hid (M.length = n ∧ (∀ j, j < k → M.getD j nop = C.getD j nop) ∧ OwnP wr w.heap.size (.slice (some ⟨w.heap.size, 0, none⟩) n n) M) ∧ Below w.heap.size w wr) (fun i _ => n - (intOf i).toNat)
  case atStart => exact ⟨0, Nat.zero_le _, rfl, List.replicate n nop, Lib.hid ⟨by simp, fun j hj => absurd hj (Nat.not_lt_zero _), hO.out⟩, (Below.refl _ _).alloc (Nat.le_refl _) _⟩
  case round =>
    obtain ⟨k, hk, rfl, M, hM, hnx⟩ := hrel
    clear hO
    by_cases hlt : k < n
    · obtain ⟨h0, h1⟩ := h.out k (by rw [hn.out]; exact hlt)
      have q0 := (hnx.cell (p := ⟨b, off + k * 2, none⟩) hb).trans h0
      have q1 := (hnx.cell (p := ⟨b, off + k * 2 + 1, none⟩) hb).trans h1
      clear h0 h1
      obtain ⟨c, hc⟩ : ∃ c, Hid (C.getD k nop = c) := ⟨_, Lib.hid rfl⟩
      rw [hc.out] at q0 q1
      obtain ⟨x, y⟩ := c
      dsimp only at q0 q1
      have hs := Lib.hid hM.out.2.2.lt
      have hnx := Lib.hid hnx
      go_wp2_with fail
      refine (toId_any x y _).mono ?_
      rintro e w1 ⟨rfl, B⟩
      have hO1 := hM.out.2.2.up B hs.out
      obtain ⟨d0, d1⟩ := hO1.cell k (by rw [hM.out.1]; exact hlt)
      have f0 := hO1.free (k * 2)
      have f1 := hO1.free (k * 2 + 1)
      have hs1 := hO1.lt
      have R := Lib.hid (hO1.set k (by rw [hM.out.1]; exact hlt) (x, y))
      have R2 := Lib.hid (id_up (C := C) (by rw [hM.out.1]; exact hlt) hM.out.2.1)
      have hl := Lib.hid hM.out.1
      have D1 := Lib.hid (hnx.out.trans (B.mono hnx.out.size))
      generalize M.getD k nop = y0 at d0 d1
      clear hM h hO1 B hnx q0 q1 hs
      go_wp2_with fail
      go_roundw
      case rel => exact ⟨k + 1, by omega, by go_num, M.set k (x, y), Lib.hid ⟨by rw [List.length_set]; exact hl.out, by rw [← hc.out]; exact R2.out, R.out⟩, (D1.out.setCell (by simp) _).setCell (by simp) _⟩
      case measure => simp [intOf]; omega
    · obtain rfl : k = n := by omega
      have e : Hid (M = C) := Lib.hid (id_same (hM.out.1.trans hn.out.symm) (fun j hj => hM.out.2.1 j (by rw [← hM.out.1]; exact hj)))
      have hnx := Lib.hid hnx
      clear h
      go_wp2_with fail
      go_ret
      exact ⟨w.heap.size, _, Nat.le_refl _, rfl, by rw [← e.out]; exact hM.out.2.2, hnx.out⟩

theorem toP_nil (a : Option Addr) (ca : Nat) (w : World) :
    Calls Tryd.prog 25 #[.slice a 0 ca] w (CopPPost [] w) := by
  have hmk : ∀ w : World, (Instr.makeSlice 23 (.int .i64 0) (.int .i64 0)).run Tryd.prog w = .ok (.slice (some ⟨w.heap.size, 0, none⟩) 0 0) (w.alloc (.cells (madeCells #[.int .i64 0, .int .i64 0] (0 * 2)) 31)) := made_ids 0 (by omega)
  have hO := Lib.hid (ownP_made w 0 (by omega) 31)
  go_enter Tryd.func25, Tryd.ntmps25
  go_wp2_with fail
  refine wp_loop_rounds 1 ?_
  rw [rounds_succ]
  go_wp2_with fail
  go_ret
  exact ⟨w.heap.size, _, Nat.le_refl _, rfl, hO.out, (Below.refl _ _).alloc (Nat.le_refl _) _⟩

/-- A COPY. -/
theorem toP_any (u : Value) (C : List Pid) (w : World) (h : Ids w u C) :
    Calls Tryd.prog 25 #[u] w (CopPPost C w) := by
  obtain ⟨a, cap, rfl, h1, h2, h3⟩ := h
  rcases h3 with h3 | ⟨b, off, rfl, h4, h5⟩
  · obtain rfl : C = [] := List.length_eq_zero_iff.1 h3
    exact toP_nil a cap w
  · exact toP_at b off cap C w h4 h2 h5

theorem eqP1 (x y : Int) (w : World) :
    Calls Tryd.prog 43 #[.agg #[.int .i64 x, .int .i64 y], .agg #[.int .i64 x, .int .i64 y]] w fun e w' => e = .returned (.bool true) ∧ Below w.heap.size w w' := by
  go_enter Tryd.func43, Tryd.ntmps43
  go_wp2_with fail
  go_ret
  exact ⟨rfl, ((Below.refl _ _).alloc (Nat.le_refl _) _).alloc (by simp) _⟩

set_option maxRecDepth 100000 in
set_option maxHeartbeats 2000000 in
theorem eqP_at (a b oa ob ca cb : Nat) (C : List Pid) (w : World) (hm : C.length ≤ 2000000) (ha : a < w.heap.size) (hb : b < w.heap.size)
    (hA : ∀ i, i < C.length → w.cell? ⟨a, oa + i * 2, none⟩ = some (.int .i64 (C.getD i nop).1) ∧ w.cell? ⟨a, oa + i * 2 + 1, none⟩ = some (.int .i64 (C.getD i nop).2))
    (hB : ∀ i, i < C.length → w.cell? ⟨b, ob + i * 2, none⟩ = some (.int .i64 (C.getD i nop).1) ∧ w.cell? ⟨b, ob + i * 2 + 1, none⟩ = some (.int .i64 (C.getD i nop).2)) :
    Calls Tryd.prog 26 #[.slice (some ⟨a, oa, none⟩) C.length ca, .slice (some ⟨b, ob, none⟩) C.length cb] w fun e w' => e = .returned (.bool true) ∧ Below w.heap.size w w' := by
  have hA := Lib.hid hA
  have hB := Lib.hid hB
  obtain ⟨n, hn⟩ : ∃ n, Hid (C.length = n) := ⟨_, Lib.hid rfl⟩
  rw [hn.out] at hm ⊢
  go_enter Tryd.func26, Tryd.ntmps26
  go_wp2_with fail
  go_loopw [5] (fun i wr => ∃ k : Nat, k ≤ n ∧ i = .int .i64 k ∧ Below w.heap.size w wr) (fun i _ => n - (intOf i).toNat)
  case atStart => exact ⟨0, Nat.zero_le _, rfl, Below.refl _ _⟩
  case round =>
    obtain ⟨k, hk, rfl, hnx⟩ := hrel
    by_cases hlt : k < n
    · obtain ⟨h0, h1⟩ := hA.out k (by rw [hn.out]; exact hlt)
      have q0 := (hnx.cell (p := ⟨a, oa + k * 2, none⟩) ha).trans h0
      have q1 := (hnx.cell (p := ⟨a, oa + k * 2 + 1, none⟩) ha).trans h1
      clear h0 h1
      obtain ⟨h0, h1⟩ := hB.out k (by rw [hn.out]; exact hlt)
      have r0 := (hnx.cell (p := ⟨b, ob + k * 2, none⟩) hb).trans h0
      have r1 := (hnx.cell (p := ⟨b, ob + k * 2 + 1, none⟩) hb).trans h1
      clear h0 h1 hA hB
      generalize C.getD k nop = c at q0 q1 r0 r1
      obtain ⟨x, y⟩ := c
      dsimp only at q0 q1 r0 r1
      have hnx := Lib.hid hnx
      go_wp2_with fail
      go_region_with (first | (go_at_call 43; refine (eqP1 x y _).mono ?_; rintro e w1 ⟨rfl, B⟩; have D1 := Lib.hid (bstep (Below.drew hnx.out) B); clear B))
      all_goals
        go_wp2_with fail
        go_roundw
        case rel => exact ⟨k + 1, by omega, by go_num, D1.out⟩
        case measure => simp [intOf]; omega
    · obtain rfl : k = n := by omega
      have hnx := Lib.hid hnx
      clear hA hB
      go_wp2_with fail
      go_ret
      exact ⟨rfl, hnx.out⟩

theorem eqP_nil (a b : Option Addr) (ca cb : Nat) (w : World) :
    Calls Tryd.prog 26 #[.slice a 0 ca, .slice b 0 cb] w fun e w' => e = .returned (.bool true) ∧ Below w.heap.size w w' := by
  go_enter Tryd.func26, Tryd.ntmps26
  go_wp2_with fail
  refine wp_loop_rounds 1 ?_
  rw [rounds_succ]
  go_wp2_with fail
  go_ret
  exact ⟨rfl, Below.refl _ _⟩

theorem eqP_any (u x : Value) (C : List Pid) (w : World) (h : Ids w u C) (g : Ids w x C) :
    Calls Tryd.prog 26 #[u, x] w fun e w' => e = .returned (.bool true) ∧ Below w.heap.size w w' := by
  obtain ⟨a, cap, rfl, h1, h2, h3⟩ := h
  obtain ⟨b, cap', rfl, g1, g2, g3⟩ := g
  rcases h3 with h3 | ⟨a, off, rfl, h4, h5⟩
  · obtain rfl : C = [] := List.length_eq_zero_iff.1 h3
    exact eqP_nil a b cap cap' w
  · rcases g3 with g3 | ⟨b, off', rfl, g4, g5⟩
    · obtain rfl : C = [] := List.length_eq_zero_iff.1 g3
      exact eqP_nil _ b cap cap' w
    · exact eqP_at a b off off' cap cap' C w h2 h4 g4 h5 g5
end Go.Proofs.YtigaepbhbfpijaaDoor
