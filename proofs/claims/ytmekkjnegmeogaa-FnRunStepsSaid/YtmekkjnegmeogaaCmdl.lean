/- The laws' copies, comparisons and marks of slices of commands. -/
import Derived.Test.YtmekkjnegmeogaaCmds
import Derived.Test.YtmekkjnegmeogaaToCmd
import Derived.Deep.RegionWith
namespace Go.Proofs.Ytmekkjnegmeogaa
open Go.RowKit
set_option linter.unusedVariables false

theorem made3 (n j : Nat) (h : j < n * 3) : (madeCells #[.int .i64 0, .int .i64 0, .int .i64 0] (n * 3))[j]? = some (.int .i64 0) := by
  unfold madeCells
  rw [Array.getElem?_map, Array.getElem?_range]
  rw [if_pos h]
  have : j % 3 = 0 ∨ j % 3 = 1 ∨ j % 3 = 2 := by omega
  rcases this with e | e | e <;> simp [e]

theorem rep_get (n i : Nat) : (List.replicate n nocm).getD i nocm = nocm := by
  rw [List.getD_eq_getElem?_getD, List.getElem?_replicate]
  split <;> rfl

theorem ownC_made (w : World) (n : Nat) (hn : n ≤ 2000000) (t : TypeId) : OwnC (w.alloc (.cells (madeCells #[.int .i64 0, .int .i64 0, .int .i64 0] (n * 3)) t)) w.heap.size (.slice (some ⟨w.heap.size, 0, none⟩) n n) (List.replicate n nocm) := by
  refine ⟨n, _, t, by simp, heap_alloc_new w _, by simp, by simpa using hn, fun i hi => ?_⟩
  rw [List.length_replicate] at hi
  rw [made3 n _ (by omega), made3 n _ (by omega), made3 n _ (by omega), rep_get]
  exact ⟨rfl, rfl, rfl⟩

theorem info_cmd : (Try.prog.info? 25).map (fun i => (i.zero, i.size, i.bytes)) = some (some (.agg #[.int .i64 0, .int .i64 0, .int .i64 0]), 3, 24) := by kernel_rfl

theorem made_cmds (n : Nat) (hn : n ≤ 2000000) (w : World) : (Instr.makeSlice 33 (.int .i64 n) (.int .i64 n)).run Try.prog w = .ok (.slice (some ⟨w.heap.size, 0, none⟩) n n) (w.alloc (.cells (madeCells #[.int .i64 0, .int .i64 0, .int .i64 0] (n * 3)) 25)) := by
  obtain ⟨i, hi, hz, hs, hb⟩ := info_parts info_cmd
  have hr := run_make (P := Try.prog) w 33 25 i _ Try.underlying33 hi hz .i64 .i64 n n (by omega) (Int.le_refl _) (by rw [hb]; omega) (by omega)
  simp only [Int.toNat_natCast, hs] at hr
  exact hr

theorem cm_same {A B : List Cm} (hl : A.length = B.length) (h : ∀ j, j < A.length → A.getD j nocm = B.getD j nocm) : A = B := by
  apply List.ext_getElem hl
  intro i h1 h2
  have := h i h1
  rw [List.getD_eq_getElem?_getD, List.getD_eq_getElem?_getD, List.getElem?_eq_getElem h1, List.getElem?_eq_getElem h2] at this
  simpa using this
theorem cm_up {M C : List Cm} {k : Nat} (hM : k < M.length) (h : ∀ j, j < k → M.getD j nocm = C.getD j nocm) : ∀ j, j < k + 1 → (M.set k (C.getD k nocm)).getD j nocm = C.getD j nocm := by
  intro j hj
  by_cases e : j = k
  · subst e; rw [List.getD_eq_getElem?_getD, List.getElem?_set_self hM]; rfl
  · rw [List.getD_eq_getElem?_getD, List.getElem?_set_ne (fun x => e x.symm), ← List.getD_eq_getElem?_getD]; exact h j (by omega)

/-- What toCommandS leaves: a copy in a block of its own. -/
def CopCPost (C : List Cm) (w : World) (e : Ending) (w' : World) : Prop :=
  ∃ b u, w.heap.size ≤ b ∧ e = .returned u ∧ OwnC w' b u C ∧ Below w.heap.size w w'

set_option maxHeartbeats 2000000 in
theorem toC_at (b off ca : Nat) (C : List Cm) (w : World) (hb : b < w.heap.size) (hm : C.length ≤ 2000000) (h : ∀ i, i < C.length → w.cell? ⟨b, off + i * 3, none⟩ = some (.int .i64 (C.getD i nocm).1) ∧ w.cell? ⟨b, off + i * 3 + 1, none⟩ = some (.int .i64 (C.getD i nocm).2.1) ∧ w.cell? ⟨b, off + i * 3 + 2, none⟩ = some (.int .i64 (C.getD i nocm).2.2)) :
    Calls Try.prog 35 #[.slice (some ⟨b, off, none⟩) C.length ca] w (CopCPost C w) := by
  have hmk := made_cmds C.length hm
  have h := Lib.hid h
  have hO := Lib.hid (ownC_made w C.length hm 25)
  obtain ⟨n, hn⟩ : ∃ n, Hid (C.length = n) := ⟨_, Lib.hid rfl⟩
  rw [hn.out] at hmk hm hO ⊢
  go_enter Try.func35, Try.ntmps35
  go_wp2_with fail
  clear hmk
  go_loopw [4] (fun i wr => ∃ k : Nat, k ≤ n ∧ i = .int .i64 k ∧ ∃ M : List Cm, Hid (M.length = n ∧ (∀ j, j < k → M.getD j nocm = C.getD j nocm) ∧ OwnC wr w.heap.size (.slice (some ⟨w.heap.size, 0, none⟩) n n) M) ∧ Below w.heap.size w wr) (fun i _ => n - (intOf i).toNat)
  case atStart => exact ⟨0, Nat.zero_le _, rfl, List.replicate n nocm, Lib.hid ⟨by simp, fun j hj => absurd hj (Nat.not_lt_zero _), hO.out⟩, (Below.refl _ _).alloc (Nat.le_refl _) _⟩
  case round =>
    obtain ⟨k, hk, rfl, M, hM, hnx⟩ := hrel
    clear hO
    by_cases hlt : k < n
    · obtain ⟨h0, h1, h2⟩ := h.out k (by rw [hn.out]; exact hlt)
      have q0 := (hnx.cell (p := ⟨b, off + k * 3, none⟩) hb).trans h0
      have q1 := (hnx.cell (p := ⟨b, off + k * 3 + 1, none⟩) hb).trans h1
      have q2 := (hnx.cell (p := ⟨b, off + k * 3 + 2, none⟩) hb).trans h2
      clear h0 h1 h2
      obtain ⟨c, hc⟩ : ∃ c, Hid (C.getD k nocm = c) := ⟨_, Lib.hid rfl⟩
      rw [hc.out] at q0 q1 q2
      obtain ⟨x, y, z⟩ := c
      dsimp only at q0 q1 q2
      have hs := Lib.hid hM.out.2.2.lt
      have hnx := Lib.hid hnx
      go_wp2_with fail
      refine (toCmd_any x y z _).mono ?_
      rintro e w1 ⟨rfl, B⟩
      have hO1 := hM.out.2.2.up B hs.out
      obtain ⟨d0, d1, d2⟩ := hO1.cell k (by rw [hM.out.1]; exact hlt)
      have f0 := hO1.free (k * 3)
      have f1 := hO1.free (k * 3 + 1)
      have f2 := hO1.free (k * 3 + 2)
      have hs1 := hO1.lt
      have R := Lib.hid (hO1.set k (by rw [hM.out.1]; exact hlt) (x, y, z))
      have R2 := Lib.hid (cm_up (C := C) (by rw [hM.out.1]; exact hlt) hM.out.2.1)
      have hl := Lib.hid hM.out.1
      have D1 := Lib.hid (hnx.out.trans (B.mono hnx.out.size))
      generalize M.getD k nocm = y0 at d0 d1 d2
      clear hM h hO1 B hnx q0 q1 q2 hs
      go_wp2_with fail
      go_roundw
      case rel => exact ⟨k + 1, by omega, by go_num, M.set k (x, y, z), Lib.hid ⟨by rw [List.length_set]; exact hl.out, by rw [← hc.out]; exact R2.out, R.out⟩, ((D1.out.setCell (by simp) _).setCell (by simp) _).setCell (by simp) _⟩
      case measure => simp [intOf]; omega
    · obtain rfl : k = n := by omega
      have e : Hid (M = C) := Lib.hid (cm_same (hM.out.1.trans hn.out.symm) (fun j hj => hM.out.2.1 j (by rw [← hM.out.1]; exact hj)))
      have hnx := Lib.hid hnx
      clear h
      go_wp2_with fail
      go_ret
      exact ⟨w.heap.size, _, Nat.le_refl _, rfl, by rw [← e.out]; exact hM.out.2.2, hnx.out⟩

theorem toC_nil (a : Option Addr) (ca : Nat) (w : World) :
    Calls Try.prog 35 #[.slice a 0 ca] w (CopCPost [] w) := by
  have hmk : ∀ w : World, (Instr.makeSlice 33 (.int .i64 0) (.int .i64 0)).run Try.prog w = .ok (.slice (some ⟨w.heap.size, 0, none⟩) 0 0) (w.alloc (.cells (madeCells #[.int .i64 0, .int .i64 0, .int .i64 0] (0 * 3)) 25)) := made_cmds 0 (by omega)
  have hO := Lib.hid (ownC_made w 0 (by omega) 25)
  go_enter Try.func35, Try.ntmps35
  go_wp2_with fail
  refine wp_loop_rounds 1 ?_
  rw [rounds_succ]
  go_wp2_with fail
  go_ret
  exact ⟨w.heap.size, _, Nat.le_refl _, rfl, hO.out, (Below.refl _ _).alloc (Nat.le_refl _) _⟩

/-- A COPY. -/
theorem toC_any (u : Value) (C : List Cm) (w : World) (h : Cmds w u C) :
    Calls Try.prog 35 #[u] w (CopCPost C w) := by
  obtain ⟨a, cap, rfl, h1, h2, h3⟩ := h
  rcases h3 with h3 | ⟨b, off, rfl, h4, h5⟩
  · obtain rfl : C = [] := List.length_eq_zero_iff.1 h3
    exact toC_nil a cap w
  · exact toC_at b off cap C w h4 h2 h5

theorem eqC1 (x y z : Int) (w : World) :
    Calls Try.prog 48 #[.agg #[.int .i64 x, .int .i64 y, .int .i64 z], .agg #[.int .i64 x, .int .i64 y, .int .i64 z]] w fun e w' => e = .returned (.bool true) ∧ Below w.heap.size w w' := by
  go_enter Try.func48, Try.ntmps48
  go_wp2_with fail
  go_ret
  exact ⟨rfl, ((Below.refl _ _).alloc (Nat.le_refl _) _).alloc (by simp) _⟩

set_option maxHeartbeats 2000000 in
theorem eqC_at (a b oa ob ca cb : Nat) (C : List Cm) (w : World) (hm : C.length ≤ 2000000) (ha : a < w.heap.size) (hb : b < w.heap.size)
    (hA : ∀ i, i < C.length → w.cell? ⟨a, oa + i * 3, none⟩ = some (.int .i64 (C.getD i nocm).1) ∧ w.cell? ⟨a, oa + i * 3 + 1, none⟩ = some (.int .i64 (C.getD i nocm).2.1) ∧ w.cell? ⟨a, oa + i * 3 + 2, none⟩ = some (.int .i64 (C.getD i nocm).2.2))
    (hB : ∀ i, i < C.length → w.cell? ⟨b, ob + i * 3, none⟩ = some (.int .i64 (C.getD i nocm).1) ∧ w.cell? ⟨b, ob + i * 3 + 1, none⟩ = some (.int .i64 (C.getD i nocm).2.1) ∧ w.cell? ⟨b, ob + i * 3 + 2, none⟩ = some (.int .i64 (C.getD i nocm).2.2)) :
    Calls Try.prog 36 #[.slice (some ⟨a, oa, none⟩) C.length ca, .slice (some ⟨b, ob, none⟩) C.length cb] w fun e w' => e = .returned (.bool true) ∧ Below w.heap.size w w' := by
  have hA := Lib.hid hA
  have hB := Lib.hid hB
  obtain ⟨n, hn⟩ : ∃ n, Hid (C.length = n) := ⟨_, Lib.hid rfl⟩
  rw [hn.out] at hm ⊢
  go_enter Try.func36, Try.ntmps36
  go_wp2_with fail
  go_loopw [5] (fun i wr => ∃ k : Nat, k ≤ n ∧ i = .int .i64 k ∧ Below w.heap.size w wr) (fun i _ => n - (intOf i).toNat)
  case atStart => exact ⟨0, Nat.zero_le _, rfl, Below.refl _ _⟩
  case round =>
    obtain ⟨k, hk, rfl, hnx⟩ := hrel
    by_cases hlt : k < n
    · obtain ⟨h0, h1, h2⟩ := hA.out k (by rw [hn.out]; exact hlt)
      have q0 := (hnx.cell (p := ⟨a, oa + k * 3, none⟩) ha).trans h0
      have q1 := (hnx.cell (p := ⟨a, oa + k * 3 + 1, none⟩) ha).trans h1
      have q2 := (hnx.cell (p := ⟨a, oa + k * 3 + 2, none⟩) ha).trans h2
      clear h0 h1 h2
      obtain ⟨h0, h1, h2⟩ := hB.out k (by rw [hn.out]; exact hlt)
      have r0 := (hnx.cell (p := ⟨b, ob + k * 3, none⟩) hb).trans h0
      have r1 := (hnx.cell (p := ⟨b, ob + k * 3 + 1, none⟩) hb).trans h1
      have r2 := (hnx.cell (p := ⟨b, ob + k * 3 + 2, none⟩) hb).trans h2
      clear h0 h1 h2 hA hB
      generalize C.getD k nocm = c at q0 q1 q2 r0 r1 r2
      obtain ⟨x, y, z⟩ := c
      dsimp only at q0 q1 q2 r0 r1 r2
      have hnx := Lib.hid hnx
      go_wp2_with fail
      go_region_with (first | (go_at_call 48; refine (eqC1 x y z _).mono ?_; rintro e w1 ⟨rfl, B⟩; have D1 := Lib.hid (bstep (Below.drew hnx.out) B); clear B))
      all_goals
        go_wp2_with fail
        go_roundw
        case rel => exact ⟨k + 1, by omega, by go_num, D1.out⟩
        case measure => simp [intOf]; omega
    · obtain rfl : k = n := by omega
      have hnx := Lib.hid hnx
      clear hA hB
      go_wp2_with fail
      go_ret
      exact ⟨rfl, hnx.out⟩

theorem eqC_nil (a b : Option Addr) (ca cb : Nat) (w : World) :
    Calls Try.prog 36 #[.slice a 0 ca, .slice b 0 cb] w fun e w' => e = .returned (.bool true) ∧ Below w.heap.size w w' := by
  go_enter Try.func36, Try.ntmps36
  go_wp2_with fail
  refine wp_loop_rounds 1 ?_
  rw [rounds_succ]
  go_wp2_with fail
  go_ret
  exact ⟨rfl, Below.refl _ _⟩

theorem eqC_any (u x : Value) (C : List Cm) (w : World) (h : Cmds w u C) (g : Cmds w x C) :
    Calls Try.prog 36 #[u, x] w fun e w' => e = .returned (.bool true) ∧ Below w.heap.size w w' := by
  obtain ⟨a, cap, rfl, h1, h2, h3⟩ := h
  obtain ⟨b, cap', rfl, g1, g2, g3⟩ := g
  rcases h3 with h3 | ⟨a, off, rfl, h4, h5⟩
  · obtain rfl : C = [] := List.length_eq_zero_iff.1 h3
    exact eqC_nil a b cap cap' w
  · rcases g3 with g3 | ⟨b, off', rfl, g4, g5⟩
    · obtain rfl : C = [] := List.length_eq_zero_iff.1 g3
      exact eqC_nil _ b cap cap' w
    · exact eqC_at a b off off' cap cap' C w h2 h4 g4 h5 g5
end Go.Proofs.Ytmekkjnegmeogaa
