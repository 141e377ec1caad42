/- The laws' copies and marks of slices of numbers: toIntS, markIntS, heldIntS. -/
import Derived.Test.YtmekkjnegmeogaaSstep
import Derived.Test.YtmekkjnegmeogaaEqs
import Derived.Deep.OwnRows
namespace Go.Proofs.Ytmekkjnegmeogaa
open Go.RowKit
set_option linter.unusedVariables false

/-- What toIntS leaves: a copy in a block of its own. -/
def CopPost (L : List Int) (w : World) (e : Ending) (w' : World) : Prop :=
  ∃ b u, w.heap.size ≤ b ∧ e = .returned u ∧ Own w' b u L ∧ Below w.heap.size w w'

theorem same_list {A B : List Int} (hl : A.length = B.length) (h : ∀ j, j < A.length → A.getD j 0 = B.getD j 0) : A = B := of_decide_eq_true (list_eq hl h)

theorem set_up {M L : List Int} {k : Nat} (hM : k < M.length) (h : ∀ j, j < k → M.getD j 0 = L.getD j 0) : ∀ j, j < k + 1 → (M.set k (L.getD k 0)).getD j 0 = L.getD j 0 := by
  intro j hj
  by_cases e : j = k
  · subst e; rw [List.getD_eq_getElem?_getD, List.getElem?_set_self hM]; rfl
  · rw [List.getD_eq_getElem?_getD, List.getElem?_set_ne (fun x => e x.symm), ← List.getD_eq_getElem?_getD]; exact h j (by omega)

theorem own_made (w : World) (n : Nat) (hn : n ≤ 2000000) (t : TypeId) : Own (w.alloc (.cells (madeCells #[.int .i64 0] n) t)) w.heap.size (.slice (some ⟨w.heap.size, 0, none⟩) n n) (List.replicate n 0) := by
  refine own_new w _ t (List.replicate n 0) n (by simp) (by simpa using hn) ?_
  rw [toList_madeCells_one]
  simp [ints]

set_option maxHeartbeats 1000000 in
theorem toI_at (b off ca : Nat) (L : List Int) (w : World) (hb : b < w.heap.size) (hm : L.length ≤ 2000000) (h : ∀ i, i < L.length → w.cell? ⟨b, off + i, none⟩ = some (.int .i64 (L.getD i 0))) :
    Calls Try.prog 29 #[.slice (some ⟨b, off, none⟩) L.length ca] w (CopPost L w) := by
  have hmk := run_make_row' (P := Try.prog) 23 3 (.int .i64 0) 8 Try.underlying23 info_int rfl .i64 .i64 L.length (by omega) (by omega)
  have h := Lib.hid h
  have hO := Lib.hid (own_made w L.length hm 3)
  obtain ⟨n, hn⟩ : ∃ n, Hid (L.length = n) := ⟨_, Lib.hid rfl⟩
  rw [hn.out] at hmk hm hO ⊢
  go_enter Try.func29, Try.ntmps29
  go_wp2_with fail
  clear hmk
  go_loopw [4] (fun i wr => ∃ k : Nat, k ≤ n ∧ i = .int .i64 k ∧ ∃ M : List Int, Hid (M.length = n ∧ (∀ j, j < k → M.getD j 0 = L.getD j 0) ∧ Own wr w.heap.size (.slice (some ⟨w.heap.size, 0, none⟩) n n) M) ∧ Below w.heap.size w wr) (fun i _ => n - (intOf i).toNat)
  case atStart => exact ⟨0, Nat.zero_le _, rfl, List.replicate n 0, Lib.hid ⟨by simp, fun j hj => absurd hj (Nat.not_lt_zero _), hO.out⟩, (Below.refl _ _).alloc (Nat.le_refl _) _⟩
  case round =>
    obtain ⟨k, hk, rfl, M, hM, hnx⟩ := hrel
    clear hO
    by_cases hlt : k < n
    · have hc := (hnx.cell (p := ⟨b, off + k, none⟩) hb).trans (h.out k (by rw [hn.out]; exact hlt))
      obtain ⟨x, hx⟩ : ∃ x, Hid (L.getD k 0 = x) := ⟨_, Lib.hid rfl⟩
      rw [hx.out] at hc
      have hd := hM.out.2.2.cell k (by rw [hM.out.1]; exact hlt)
      have hf := hM.out.2.2.free k
      have hs := hM.out.2.2.lt
      have R := Lib.hid (hM.out.2.2.set k x)
      have R2 := Lib.hid (set_up (L := L) (by rw [hM.out.1]; exact hlt) hM.out.2.1)
      have hl := Lib.hid hM.out.1
      have hnx := Lib.hid hnx
      generalize M.getD k 0 = y at hd
      clear hM h
      go_wp2_with fail
      go_roundw
      case rel => exact ⟨k + 1, by omega, by go_num, M.set k x, Lib.hid ⟨by rw [List.length_set]; exact hl.out, by rw [← hx.out]; exact R2.out, R.out⟩, hnx.out.setCell (by simp) _⟩
      case measure => simp [intOf]; omega
    · obtain rfl : k = n := by omega
      have e : Hid (M = L) := Lib.hid (same_list (hM.out.1.trans hn.out.symm) (fun j hj => hM.out.2.1 j (by rw [← hM.out.1]; exact hj)))
      have hnx := Lib.hid hnx
      clear h
      go_wp2_with fail
      go_ret
      exact ⟨w.heap.size, _, Nat.le_refl _, rfl, by rw [← e.out]; exact hM.out.2.2, hnx.out⟩

theorem toI_nil (a : Option Addr) (ca : Nat) (w : World) :
    Calls Try.prog 29 #[.slice a 0 ca] w (CopPost [] w) := by
  have hmk : ∀ w : World, (Instr.makeSlice 23 (.int .i64 0) (.int .i64 0)).run Try.prog w = .ok (.slice (some ⟨w.heap.size, 0, none⟩) 0 0) (w.alloc (.cells (madeCells #[.int .i64 0] 0) 3)) := run_make_row' (P := Try.prog) 23 3 (.int .i64 0) 8 Try.underlying23 info_int rfl .i64 .i64 0 (by omega) (by omega)
  have hO := Lib.hid (own_made w 0 (by omega) 3)
  go_enter Try.func29, Try.ntmps29
  go_wp2_with fail
  refine wp_loop_rounds 1 ?_
  rw [rounds_succ]
  go_wp2_with fail
  go_ret
  exact ⟨w.heap.size, _, Nat.le_refl _, rfl, hO.out, (Below.refl _ _).alloc (Nat.le_refl _) _⟩

/-- A COPY. -/
theorem toI_any (u : Value) (L : List Int) (w : World) (h : Ints w u L) :
    Calls Try.prog 29 #[u] w (CopPost L w) := by
  obtain ⟨a, cap, rfl, h1, h2, h3⟩ := h.cells
  rcases h3 with h3 | ⟨b, off, rfl, h4, h5⟩
  · obtain rfl : L = [] := List.length_eq_zero_iff.1 h3
    exact toI_nil a cap w
  · exact toI_at b off cap L w h4 h2 h5

/-- Marks from k on. -/
def Marked (k : Int) (n : Nat) (M : List Int) : Prop := M.length = n ∧ ∀ j : Nat, j < n → M.getD j 0 = k + j

/-- What markIntS leaves. -/
def MarkPost (b : Nat) (u : Value) (k : Int) (n : Nat) (w : World) (e : Ending) (w' : World) : Prop :=
  e = .returned (.int .i64 (k + n)) ∧ ∃ M, Marked k n M ∧ Own w' b u M ∧ Keep w.heap.size b w w'

theorem mark_up {M : List Int} {k0 : Int} {k : Nat} (hM : k < M.length) (h : ∀ j : Nat, j < k → M.getD j 0 = k0 + j) : ∀ j : Nat, j < k + 1 → (M.set k (k0 + k)).getD j 0 = k0 + j := by
  intro j hj
  by_cases e : j = k
  · subst e; rw [List.getD_eq_getElem?_getD, List.getElem?_set_self hM]; rfl
  · rw [List.getD_eq_getElem?_getD, List.getElem?_set_ne (fun x => e x.symm), ← List.getD_eq_getElem?_getD]; exact h j (by omega)

set_option maxHeartbeats 1000000 in
theorem mark_any (b : Nat) (u : Value) (L : List Int) (k0 : Int) (w : World) (h : Own w b u L) (h0 : 0 ≤ k0) (h1 : k0 ≤ 1000000000) :
    Calls Try.prog 32 #[u, .int .i64 k0] w (MarkPost b u k0 L.length w) := by
  obtain ⟨cap, rfl, hcap⟩ := h.shape
  have hm : L.length ≤ 2000000 := by obtain ⟨_, _, _, _, _, _, h, _⟩ := h; exact h
  have hbl := h.lt
  obtain ⟨n, hn⟩ : ∃ n, Hid (L.length = n) := ⟨_, Lib.hid rfl⟩
  rw [hn.out] at h hcap hm ⊢
  have h := Lib.hid h
  go_enter Try.func32, Try.ntmps32
  go_wp2_with fail
  go_loopw [1, 5] (fun q i wr => ∃ k : Nat, k ≤ n ∧ i = .int .i64 k ∧ q = .int .i64 (k0 + k) ∧ ∃ M : List Int, Hid (M.length = n ∧ (∀ j : Nat, j < k → M.getD j 0 = k0 + j) ∧ Own wr b (.slice (some ⟨b, 0, none⟩) n cap) M) ∧ Hid (Keep w.heap.size b w wr)) (fun _ i _ => n - (intOf i).toNat)
  case atStart => exact ⟨0, Nat.zero_le _, rfl, by simp, L, Lib.hid ⟨hn.out, fun j hj => absurd hj (Nat.not_lt_zero _), h.out⟩, Lib.hid (Keep.refl _ _ _)⟩
  case round =>
    obtain ⟨k, hk, rfl, rfl, M, hM, hnx⟩ := hrel
    clear h
    by_cases hlt : k < n
    · have hd := hM.out.2.2.cell k (by rw [hM.out.1]; exact hlt)
      have hf := hM.out.2.2.free k
      have hs := hM.out.2.2.lt
      have R := Lib.hid (hM.out.2.2.set k (k0 + k))
      have R2 := Lib.hid (mark_up (by rw [hM.out.1]; exact hlt) hM.out.2.1)
      have hl := Lib.hid hM.out.1
      generalize M.getD k 0 = y at hd
      clear hM
      go_wp2_with fail
      go_roundw
      case rel => exact ⟨k + 1, by omega, by go_num, by go_num, M.set k (k0 + k), Lib.hid ⟨by rw [List.length_set]; exact hl.out, R2.out, R.out⟩, Lib.hid (hnx.out.setR _ _)⟩
      case measure => simp [intOf]; omega
    · obtain rfl : k = n := by omega
      go_wp2_with fail
      go_ret
      exact ⟨rfl, M, ⟨hM.out.1, hM.out.2.1⟩, hM.out.2.2, hnx.out⟩

set_option maxHeartbeats 1000000 in
theorem held_at (b off ca : Nat) (k0 : Int) (n : Nat) (M : List Int) (w : World) (hM : Marked k0 n M) (hb : b < w.heap.size) (hm : n ≤ 2000000) (h : ∀ i, i < n → w.cell? ⟨b, off + i, none⟩ = some (.int .i64 (M.getD i 0))) (h0 : 0 ≤ k0) (h1 : k0 ≤ 1000000000) :
    Calls Try.prog 33 #[.slice (some ⟨b, off, none⟩) n ca, .int .i64 k0] w fun e w' => e = .returned (.int .i64 (k0 + n)) ∧ Below w.heap.size w w' := by
  have h := Lib.hid h
  have hM := Lib.hid hM
  go_enter Try.func33, Try.ntmps33
  go_wp2_with fail
  go_loopw [1, 5] (fun q i wr => ∃ k : Nat, k ≤ n ∧ i = .int .i64 k ∧ q = .int .i64 (k0 + k) ∧ Below w.heap.size w wr) (fun _ i _ => n - (intOf i).toNat)
  case atStart => exact ⟨0, Nat.zero_le _, rfl, by simp, Below.refl _ _⟩
  case round =>
    obtain ⟨k, hk, rfl, rfl, hnx⟩ := hrel
    by_cases hlt : k < n
    · have hc := (hnx.cell (p := ⟨b, off + k, none⟩) hb).trans (h.out k hlt)
      rw [hM.out.2 k hlt] at hc
      have hnx := Lib.hid hnx
      go_wp2_with fail
      go_roundw
      case rel => exact ⟨k + 1, by omega, by go_num, by go_num, hnx.out⟩
      case measure => simp [intOf]; omega
    · obtain rfl : k = n := by omega
      have hnx := Lib.hid hnx
      go_wp2_with fail
      go_ret
      exact ⟨rfl, hnx.out⟩

theorem held_nil (a : Option Addr) (ca : Nat) (k0 : Int) (w : World) :
    Calls Try.prog 33 #[.slice a 0 ca, .int .i64 k0] w fun e w' => e = .returned (.int .i64 (k0 + (0 : Nat))) ∧ Below w.heap.size w w' := by
  go_enter Try.func33, Try.ntmps33
  go_wp2_with fail
  refine wp_loop_rounds 1 ?_
  rw [rounds_succ]
  go_wp2_with fail
  go_ret
  exact ⟨by simp, Below.refl _ _⟩

/-- THE MARKS ARE THERE. -/
theorem held_any (u : Value) (k0 : Int) (n : Nat) (M : List Int) (w : World) (hM : Marked k0 n M) (h : Ints w u M) (h0 : 0 ≤ k0) (h1 : k0 ≤ 1000000000) :
    Calls Try.prog 33 #[u, .int .i64 k0] w fun e w' => e = .returned (.int .i64 (k0 + n)) ∧ Below w.heap.size w w' := by
  obtain ⟨a, cap, rfl, h2, h3, h4⟩ := h.cells
  have hl := hM.1
  rw [hl] at h2 h3 h4 ⊢
  rcases h4 with h4 | ⟨b, off, rfl, h5, h6⟩
  · subst h4
    exact held_nil a cap k0 w
  · exact held_at b off cap k0 n M w hM h5 h3 h6 h0 h1
end Go.Proofs.Ytmekkjnegmeogaa
