/- An act runs on an array: (*cells).run. -/
import Derived.Test.YtmekkjnegmeogaaCof
import Derived.Test.YtmekkjnegmeogaaPick
import Derived.Test.YtmekkjnegmeogaaClasy
namespace Go.Proofs.Ytmekkjnegmeogaa
open Go.RowKit
set_option linter.unusedVariables false

/-- What a command makes of a state, and its result. -/
def stepL (L : List Int) (k key v : Int) : List Int := if k = 1 then L.set key.toNat v else if k = 2 then L.set key.toNat ((L.getD key.toNat 0 + v) % 1000) else L
def stepN (L : List Int) (k key v : Int) : Int := if k = 0 then L.getD key.toNat 0 else 0

theorem stepL_len (L : List Int) (k key v : Int) : (stepL L k key v).length = L.length := by
  unfold stepL; split
  · simp
  · split <;> simp

theorem stV_len {L : List Int} (h : stV L = true) : L.length = 6 := by
  unfold stV at h
  rw [Bool.and_eq_true] at h
  exact of_decide_eq_true h.2
theorem stV_get {L : List Int} (h : stV L = true) (i : Nat) : 0 ≤ L.getD i 0 ∧ L.getD i 0 ≤ 999 := by
  unfold stV at h
  rw [Bool.and_eq_true, List.all_eq_true] at h
  rw [List.getD_eq_getElem?_getD]
  by_cases hi : i < L.length
  · rw [List.getElem?_eq_getElem hi]
    have := h.1 _ (List.getElem_mem hi)
    simpa [okV] using this
  · rw [List.getElem?_eq_none (by omega)]; simp
theorem stV_set {L : List Int} (h : stV L = true) (i : Nat) {x : Int} (h0 : 0 ≤ x) (h1 : x ≤ 999) : stV (L.set i x) = true := by
  unfold stV at h ⊢
  rw [Bool.and_eq_true, List.all_eq_true] at h ⊢
  refine ⟨fun y hy => ?_, by simpa using h.2⟩
  rcases List.mem_or_eq_of_mem_set hy with hy | rfl
  · exact h.1 y hy
  · simp [okV, h0, h1]
theorem stV_step {L : List Int} {k key v : Int} (h : stV L = true) (hc : cvB k key v = true) : stV (stepL L k key v) = true := by
  have := cv_of hc
  unfold stepL
  split
  · exact stV_set h _ (by omega) (by omega)
  · split
    · exact stV_set h _ (by omega) (by omega)
    · exact h

theorem Cel.lt {w : World} {b : Nat} {L : List Int} (h : Cel w b L) : b < w.heap.size := lt_of_heap h.1
theorem Cel.cell {w : World} {b : Nat} {L : List Int} (h : Cel w b L) (m : Nat) (hm : m < 6) : w.cell? ⟨b, m, none⟩ = some (.int .i64 (L.getD m 0)) := by
  have hl := h.2
  rw [cell_of_cells h.1, List.getElem?_toArray, ints_get (by omega), List.getD_eq_getElem?_getD, List.getElem?_eq_getElem (by omega)]; rfl
theorem Cel.free {w : World} {b : Nat} {L : List Int} (h : Cel w b L) (m : Nat) : w.frozen? ⟨b, m, none⟩ = false := by
  simp [World.frozen?, h.1]
theorem Cel.set {w : World} {b : Nat} {L : List Int} (h : Cel w b L) (m : Nat) (x : Int) : Cel (w.setCell ⟨b, m, none⟩ (.int .i64 x)) b (L.set m x) := by
  refine ⟨?_, by simpa using h.2⟩
  rw [heap_setCell_same w b m _ _ _ h.1]
  simp [ints, List.map_set]
theorem Cel.same {w w' : World} {b : Nat} {L : List Int} (h : Cel w b L) (hb : w'.heap[b]? = w.heap[b]?) : Cel w' b L := ⟨hb.trans h.1, h.2⟩
theorem Cel.alloc {w : World} {b : Nat} {L : List Int} (h : Cel w b L) (o : Obj) : Cel (w.alloc o) b L := h.same (Below.heap_alloc _ _ _ h.lt)
theorem Cel.drewN {w : World} {b : Nat} {L : List Int} (h : Cel w b L) (n : Nat) : Cel (w.drewN n) b L := h

theorem idx_at (b : Nat) (m : Nat) (hm : m < 6) (w : World) : (Instr.indexAt 72 (.pointer (some ⟨b, 0, none⟩)) (.int .i64 m)).run Try.prog w = .ok (.pointer (some ⟨b, m, none⟩)) w := by
  rcases (show m = 0 ∨ m = 1 ∨ m = 2 ∨ m = 3 ∨ m = 4 ∨ m = 5 by omega) with rfl | rfl | rfl | rfl | rfl | rfl <;> kernel_rfl

theorem stepL_p (L : List Int) (m : Nat) (v : Int) : stepL L 1 m v = L.set m v := by simp [stepL]
theorem stepL_a (L : List Int) (m : Nat) (v : Int) : stepL L 2 m v = L.set m ((L.getD m 0 + v) % 1000) := by simp [stepL]
theorem keep_sa (w : World) (b m : Nat) (u : Value) (o : Obj) : Keep w.heap.size b w (((w.setCell ⟨b, m, none⟩ u).alloc o).drew) :=
  (((Keep.refl _ _ _).setR m u).alloc (by simp [World.setCell]) o).drewN 1
/-- What run leaves. -/
def RunPost (b : Nat) (L : List Int) (k key v : Int) (w : World) (e : Ending) (w' : World) : Prop :=
  e = .returned (.int .i64 (stepN L k key v)) ∧ Cel w' b (stepL L k key v) ∧ Keep w.heap.size b w w'

set_option maxHeartbeats 1000000 in
theorem run_r (b : Nat) (L : List Int) (m : Nat) (hm : m < 6) (w : World) (hC : Cel w b L) :
    Calls Try.prog 43 #[.pointer (some ⟨b, 0, none⟩), .iface 79 (.agg #[.int .i64 m])] w (RunPost b L 0 m 0 w) := by
  have hc := hC.cell m hm
  have hf := hC.free m
  have hb := hC.lt
  have hi := idx_at b m hm
  have hn : Hid (stepN L 0 m 0 = L.getD m 0) := Lib.hid rfl
  have hC := Lib.hid hC
  have k1 := fun w => as_rr (.agg #[.int .i64 m]) w
  go_enter Try.func43, Try.ntmps43
  go_wp2_with fail
  go_quiet (fail)
  go_wp2_with fail
  go_ret
  exact ⟨rfl, (hC.out.alloc _).drewN _, ((Keep.refl _ _ _).alloc (Nat.le_refl _) _).drewN _⟩

set_option maxHeartbeats 1000000 in
theorem run_p (b : Nat) (L : List Int) (m : Nat) (hm : m < 6) (v : Int) (w : World) (hC : Cel w b L) :
    Calls Try.prog 43 #[.pointer (some ⟨b, 0, none⟩), .iface 81 (.agg #[.int .i64 m, .int .i64 v])] w (RunPost b L 1 m v w) := by
  have hc := hC.cell m hm
  have hf := hC.free m
  have hb := hC.lt
  have hi := idx_at b m hm
  have hC := Lib.hid hC
  have k1 := fun w => as_pr (.agg #[.int .i64 m, .int .i64 v]) w
  have k2 := fun w => as_pp (.agg #[.int .i64 m, .int .i64 v]) w
  go_enter Try.func43, Try.ntmps43
  go_wp2_with fail
  go_region
  all_goals
    go_wp2_with fail
    go_ret
    refine ⟨rfl, ?_, ?_⟩
    · rw [stepL_p]
      exact (hC.out.set m v).alloc _
    · exact keep_sa _ _ _ _ _

set_option maxHeartbeats 1000000 in
theorem run_a (b : Nat) (L : List Int) (m : Nat) (hm : m < 6) (v : Int) (w : World) (hC : Cel w b L) (h0 : 0 ≤ v) (h1 : v ≤ 99) (hx0 : 0 ≤ L.getD m 0) (hx1 : L.getD m 0 ≤ 999) :
    Calls Try.prog 43 #[.pointer (some ⟨b, 0, none⟩), .iface 82 (.agg #[.int .i64 m, .int .i64 v])] w (RunPost b L 2 m v w) := by
  have hc := hC.cell m hm
  have hf := hC.free m
  have hb := hC.lt
  have hi := idx_at b m hm
  have hC := Lib.hid hC
  have k1 := fun w => as_ar (.agg #[.int .i64 m, .int .i64 v]) w
  have k2 := fun w => as_ap (.agg #[.int .i64 m, .int .i64 v]) w
  have k3 := fun w => as_aa (.agg #[.int .i64 m, .int .i64 v]) w
  obtain ⟨x, hx⟩ : ∃ x, Hid (L.getD m 0 = x) := ⟨_, Lib.hid rfl⟩
  rw [hx.out] at hc hx0 hx1
  go_enter Try.func43, Try.ntmps43
  go_wp2_with fail
  go_region
  all_goals
    go_wp2_with fail
    go_ret
    refine ⟨rfl, ?_, ?_⟩
    · rw [stepL_a, hx.out]
      exact (hC.out.set m ((x + v) % 1000)).alloc _
    · exact keep_sa _ _ _ _ _

set_option maxHeartbeats 1000000 in
theorem run_n (b : Nat) (L : List Int) (w : World) (hC : Cel w b L) :
    Calls Try.prog 43 #[.pointer (some ⟨b, 0, none⟩), .iface 84 (.agg #[])] w (RunPost b L 3 0 0 w) := by
  have hC := Lib.hid hC
  have k1 := fun w => as_nr (.agg #[]) w
  have k2 := fun w => as_np (.agg #[]) w
  have k3 := fun w => as_na (.agg #[]) w
  go_enter Try.func43, Try.ntmps43
  go_wp2_with fail
  go_ret
  exact ⟨rfl, hC.out, Keep.refl _ _ _⟩

/-- AN ACT RUNS on a valid array. -/
theorem run_any (b : Nat) (L : List Int) (k key v : Int) (w : World) (hC : Cel w b L) (hL : stV L = true) (hcv : cvB k key v = true) :
    Calls Try.prog 43 #[.pointer (some ⟨b, 0, none⟩), actV k key v] w (RunPost b L k key v w) := by
  have hh := cv_of hcv
  unfold actV
  rw [if_pos hcv]
  rcases hh with ⟨rfl, h1, h2, rfl⟩ | ⟨rfl, h1, h2, h3, h4⟩ | ⟨rfl, h1, h2, h3, h4⟩ | ⟨rfl, rfl, rfl⟩
  · obtain ⟨m, rfl⟩ := Int.eq_ofNat_of_zero_le h1
    exact run_r b L m (by omega) w hC
  · obtain ⟨m, rfl⟩ := Int.eq_ofNat_of_zero_le h1
    exact run_p b L m (by omega) v w hC
  · obtain ⟨m, rfl⟩ := Int.eq_ofNat_of_zero_le h1
    exact run_a b L m (by omega) v w hC h3 h4 (stV_get hL m).1 (stV_get hL m).2
  · exact run_n b L w hC
end Go.Proofs.Ytmekkjnegmeogaa
