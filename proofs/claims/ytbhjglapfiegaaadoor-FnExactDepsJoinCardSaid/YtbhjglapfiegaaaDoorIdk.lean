/- The laws' marks and sizes of slices of ids. -/
import Derived.Test.YtbhjglapfiegaaaDoorIdz
import Derived.Test.YtbhjglapfiegaaaDoorPick
namespace Go.Proofs.YtbhjglapfiegaaaDoor
open Go.RowKit
set_option linter.unusedVariables false

theorem OwnP.cap_le {w : World} {b : Nat} {v : Value} {C : List Pid} (h : OwnP w b v C) : C.length ≤ 2000000 := by
  obtain ⟨_, _, _, _, _, _, h, _⟩ := h; exact h

/-- Marks from k on, two an id. -/
def MarkedP (k : Int) (M : List Pid) : Prop := ∀ j : Nat, j < M.length → M.getD j nop = (k + 2 * j, k + 2 * j + 1)

theorem markP_up {M : List Pid} {k0 : Int} {k : Nat} (hM : k < M.length) (h : ∀ j : Nat, j < k → M.getD j nop = (k0 + 2 * j, k0 + 2 * j + 1)) : ∀ j : Nat, j < k + 1 → (M.set k (k0 + 2 * k, k0 + 2 * k + 1)).getD j nop = (k0 + 2 * j, k0 + 2 * j + 1) := by
  intro j hj
  by_cases e : j = k
  · subst e; rw [List.getD_eq_getElem?_getD, List.getElem?_set_self hM]; rfl
  · rw [List.getD_eq_getElem?_getD, List.getElem?_set_ne (fun x => e x.symm), ← List.getD_eq_getElem?_getD]; exact h j (by omega)

set_option maxHeartbeats 2000000 in
theorem markP_any (b : Nat) (u : Value) (C : List Pid) (k0 : Int) (w : World) (h : OwnP w b u C) (h0 : 0 ≤ k0) (h1 : k0 ≤ 1000000000) :
    Calls Tryd.prog 27 #[u, .int .i64 k0] w fun e w' => e = .returned (.int .i64 (k0 + 2 * C.length)) ∧ ∃ M, M.length = C.length ∧ MarkedP k0 M ∧ OwnP w' b u M ∧ Keep w.heap.size b w w' := by
  have hm := h.cap_le
  obtain ⟨cap, rfl, hcap⟩ := h.shape
  obtain ⟨n, hn⟩ : ∃ n, Hid (C.length = n) := ⟨_, Lib.hid rfl⟩
  rw [hn.out] at h hcap hm ⊢
  have h := Lib.hid h
  go_enter Tryd.func27, Tryd.ntmps27
  go_wp2_with fail
  go_loopw [1, 5] (fun q i wr => ∃ k : Nat, k ≤ n ∧ i = .int .i64 k ∧ q = .int .i64 (k0 + 2 * k) ∧ ∃ M : List Pid, Hid (M.length = n ∧ (∀ j : Nat, j < k → M.getD j nop = (k0 + 2 * j, k0 + 2 * j + 1)) ∧ OwnP wr b (.slice (some ⟨b, 0, none⟩) n cap) M) ∧ Hid (Keep w.heap.size b w wr)) (fun _ i _ => n - (intOf i).toNat)
  case atStart => exact ⟨0, Nat.zero_le _, rfl, by simp, C, Lib.hid ⟨hn.out, fun j hj => absurd hj (Nat.not_lt_zero _), h.out⟩, Lib.hid (Keep.refl _ _ _)⟩
  case round =>
    obtain ⟨k, hk, rfl, rfl, M, hM, hnx⟩ := hrel
    clear h
    by_cases hlt : k < n
    · obtain ⟨c0, c1⟩ := hM.out.2.2.cell k (by rw [hM.out.1]; exact hlt)
      have f0 := hM.out.2.2.free (k * 2)
      have f1 := hM.out.2.2.free (k * 2 + 1)
      have hs := hM.out.2.2.lt
      have R := Lib.hid (hM.out.2.2.set k (by rw [hM.out.1]; exact hlt) (k0 + 2 * k, k0 + 2 * k + 1))
      have R2 := Lib.hid (markP_up (by rw [hM.out.1]; exact hlt) hM.out.2.1)
      have hl := Lib.hid hM.out.1
      generalize M.getD k nop = y at c0 c1
      clear hM
      go_wp2_with fail
      go_roundw
      case rel => exact ⟨k + 1, by omega, by go_num, by go_num, M.set k (k0 + 2 * k, k0 + 2 * k + 1), Lib.hid ⟨by rw [List.length_set]; exact hl.out, R2.out, R.out⟩, Lib.hid ((hnx.out.setR _ _).setR _ _)⟩
      case measure => simp [intOf]; omega
    · obtain rfl : k = n := by omega
      go_wp2_with fail
      go_ret
      refine ⟨rfl, M, hM.out.1, ?_, hM.out.2.2, hnx.out⟩
      intro j hj
      exact hM.out.2.1 j (by rw [← hM.out.1]; exact hj)

set_option maxHeartbeats 2000000 in
theorem heldP_at (b off ca : Nat) (k0 : Int) (M : List Pid) (w : World) (hM : MarkedP k0 M) (hb : b < w.heap.size) (hm : M.length ≤ 2000000) (h : ∀ i, i < M.length → w.cell? ⟨b, off + i * 2, none⟩ = some (.int .i64 (M.getD i nop).1) ∧ w.cell? ⟨b, off + i * 2 + 1, none⟩ = some (.int .i64 (M.getD i nop).2)) (h0 : 0 ≤ k0) (h1 : k0 ≤ 1000000000) :
    Calls Tryd.prog 28 #[.slice (some ⟨b, off, none⟩) M.length ca, .int .i64 k0] w fun e w' => e = .returned (.int .i64 (k0 + 2 * M.length)) ∧ Below w.heap.size w w' := by
  have h : Hid (∀ i, i < M.length → w.cell? ⟨b, off + i * 2, none⟩ = some (.int .i64 (k0 + 2 * i)) ∧ w.cell? ⟨b, off + i * 2 + 1, none⟩ = some (.int .i64 (k0 + 2 * i + 1))) := Lib.hid fun i hi => by
    have := h i hi
    rw [hM i hi] at this
    exact this
  clear hM
  generalize M.length = n at hm h ⊢
  go_enter Tryd.func28, Tryd.ntmps28
  go_wp2_with fail
  go_loopw [1, 5] (fun q i wr => ∃ k : Nat, k ≤ n ∧ i = .int .i64 k ∧ q = .int .i64 (k0 + 2 * k) ∧ Below w.heap.size w wr) (fun _ i _ => n - (intOf i).toNat)
  case atStart => exact ⟨0, Nat.zero_le _, rfl, by simp, Below.refl _ _⟩
  case round =>
    obtain ⟨k, hk, rfl, rfl, hnx⟩ := hrel
    by_cases hlt : k < n
    · have c0 := (hnx.cell (p := ⟨b, off + k * 2, none⟩) hb).trans (h.out k hlt).1
      have c1 := (hnx.cell (p := ⟨b, off + k * 2 + 1, none⟩) hb).trans (h.out k hlt).2
      have hnx := Lib.hid hnx
      go_wp2_with fail
      go_roundw
      case rel => exact ⟨k + 1, by omega, by go_num, by go_num, hnx.out⟩
      case measure => simp [intOf]; omega
    · obtain rfl : k = n := by omega
      have hnx := Lib.hid hnx
      go_wp2_with fail
      go_ret
      exact ⟨rfl, hnx.out⟩

theorem heldP_nil (a : Option Addr) (ca : Nat) (k0 : Int) (w : World) :
    Calls Tryd.prog 28 #[.slice a 0 ca, .int .i64 k0] w fun e w' => e = .returned (.int .i64 (k0 + 2 * (0 : Nat))) ∧ Below w.heap.size w w' := by
  go_enter Tryd.func28, Tryd.ntmps28
  go_wp2_with fail
  refine wp_loop_rounds 1 ?_
  rw [rounds_succ]
  go_wp2_with fail
  go_ret
  exact ⟨by simp, Below.refl _ _⟩

/-- THE MARKS ARE THERE. -/
theorem heldP_any (u : Value) (k0 : Int) (M : List Pid) (w : World) (hM : MarkedP k0 M) (h : Ids w u M) (h0 : 0 ≤ k0) (h1 : k0 ≤ 1000000000) :
    Calls Tryd.prog 28 #[u, .int .i64 k0] w fun e w' => e = .returned (.int .i64 (k0 + 2 * M.length)) ∧ Below w.heap.size w w' := by
  obtain ⟨a, cap, rfl, h2, h3, h4⟩ := h
  rcases h4 with h4 | ⟨b, off, rfl, h5, h6⟩
  · rw [h4]
    exact heldP_nil a cap k0 w
  · exact heldP_at b off cap k0 M w hM h5 h3 h6 h0 h1
end Go.Proofs.YtbhjglapfiegaaaDoor
