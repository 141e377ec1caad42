/- Texts laid together. -/
import Derived.Test.YtfcjhojkfchccaaDoorC01
import Derived.Test.YtfcjhojkfchccaaDoorC05
import Derived.Test.YtfcjhojkfchccaaDoorC29
import Derived.Deep.RegionWith
/- The laws' sizes of slices of ids. -/
namespace Go.Proofs.YtfcjhojkfchccaaDoor
open Go.RowKit
set_option linter.unusedVariables false

theorem szP_any (a : Option Addr) (n cap : Nat) (k : Int) (w : World) (hk : k = 1048576) (h : n ≤ 9223372036854775807) :
    Calls Tryd.prog 51 #[.slice a n cap, .int .i64 k] w fun e w' => e = .returned (.int .i64 (if 1048576 < n then -1 else 1048576 - n)) ∧ Below w.heap.size w w' := by
  subst hk
  by_cases hl : 1048576 < n
  · rw [if_pos hl]
    go_enter Tryd.func51, Tryd.ntmps51
    go_wp2_with fail
    go_ret
    exact ⟨rfl, Below.refl _ _⟩
  · rw [if_neg hl]
    go_enter Tryd.func51, Tryd.ntmps51
    go_wp2_with fail
    go_ret
    exact ⟨rfl, Below.refl _ _⟩

/-- .. with whatever is left. -/
theorem szP_gen (a : Option Addr) (n cap : Nat) (k : Int) (w : World) (hk : 0 ≤ k) (hk2 : k ≤ 1048576) (h : n ≤ 9223372036854775807) :
    Calls Tryd.prog 51 #[.slice a n cap, .int .i64 k] w fun e w' => e = .returned (.int .i64 (if k < n then -1 else k - n)) ∧ Below w.heap.size w w' := by
  by_cases hl : k < n
  · rw [if_pos hl]
    go_enter Tryd.func51, Tryd.ntmps51
    go_wp2_with fail
    go_ret
    exact ⟨rfl, Below.refl _ _⟩
  · rw [if_neg hl]
    go_enter Tryd.func51, Tryd.ntmps51
    go_wp2_with fail
    go_ret
    exact ⟨rfl, Below.refl _ _⟩
end Go.Proofs.YtfcjhojkfchccaaDoor

/- The laws' marks and sizes of slices of ids. -/
namespace Go.Proofs.YtfcjhojkfchccaaDoor
open Go.RowKit
set_option linter.unusedVariables false

theorem OwnP.cap_le {w : World} {b : Nat} {v : Value} {C : List Pid} (h : OwnP w b v C) : C.length ≤ 2000000 := by
  obtain ⟨_, _, _, _, _, _, h, _⟩ := h; exact h

/-- Marks from k on, two an id. -/
def MarkedP (k : Int) (M : List Pid) : Prop := ∀ j : Nat, j < M.length → M.getD j nop = (k + 2 * j, k + 2 * j + 1)

theorem markP_up {M : List Pid} {k0 : Int} {k : Nat} (hM : k < M.length) (h : ∀ j : Nat, j < k → M.getD j nop = (k0 + 2 * j, k0 + 2 * j + 1)) : ∀ j : Nat, j < k + 1 → (M.set k (k0 + 2 * k, k0 + 2 * k + 1)).getD j nop = (k0 + 2 * j, k0 + 2 * j + 1) := by
  intro j hj
  by_cases e : j = k
  · subst e; rw [List.getD_eq_getElem?_getD, List.getElem?_set_self hM]; rfl
  · rw [List.getD_eq_getElem?_getD, List.getElem?_set_ne (fun x => e x.symm), ← List.getD_eq_getElem?_getD]; exact h j (by omega)

set_option maxRecDepth 100000 in
set_option maxHeartbeats 2000000 in
theorem markP_any (b : Nat) (u : Value) (C : List Pid) (k0 : Int) (w : World) (h : OwnP w b u C) (h0 : 0 ≤ k0) (h1 : k0 ≤ 1000000000) :
    Calls Tryd.prog 58 #[u, .int .i64 k0] w fun e w' => e = .returned (.int .i64 (k0 + 2 * C.length)) ∧ ∃ M, M.length = C.length ∧ MarkedP k0 M ∧ OwnP w' b u M ∧ Keep w.heap.size b w w' := by
  have hm := h.cap_le
  obtain ⟨cap, rfl, hcap⟩ := h.shape
  obtain ⟨n, hn⟩ : ∃ n, Hid (C.length = n) := ⟨_, Lib.hid rfl⟩
  rw [hn.out] at h hcap hm ⊢
  have h := Lib.hid h
  go_enter Tryd.func58, Tryd.ntmps58
  go_wp2_with fail
  go_loopw [1, 5] (fun q i wr => ∃ k : Nat, k ≤ n ∧ i = .int .i64 k ∧ q = .int .i64 (k0 + 2 * k) ∧ ∃ M : List Pid, Hid (M.length = n ∧ (∀ j : Nat, j < k → M.getD j nop = (k0 + 2 * j, k0 + 2 * j + 1)) ∧ OwnP wr b (.slice (some ⟨b, 0, none⟩) n cap) M) ∧ Hid (Keep w.heap.size b w wr)) (fun _ i _ => n - (intOf i).toNat)
  case atStart => exact ⟨0, Nat.zero_le _, rfl, by simp, C, Lib.hid ⟨hn.out, fun j hj => absurd hj (Nat.not_lt_zero _), h.out⟩, Lib.hid (Keep.refl _ _ _)⟩
  case round =>
    obtain ⟨k, hk, rfl, rfl, M, hM, hnx⟩ := hrel
    clear h
    by_cases hlt : k < n
    · obtain ⟨c0, c1⟩ := hM.out.2.2.cell k (by rw [hM.out.1]; exact hlt)
      have f0 := hM.out.2.2.free (k * 2)
      have f1 := hM.out.2.2.free (k * 2 + 1)
      have hs := hM.out.2.2.lt
      have R := Lib.hid (hM.out.2.2.set k (by rw [hM.out.1]; exact hlt) (k0 + 2 * k, k0 + 2 * k + 1))
      have R2 := Lib.hid (markP_up (by rw [hM.out.1]; exact hlt) hM.out.2.1)
      have hl := Lib.hid hM.out.1
      generalize M.getD k nop = y at c0 c1
      clear hM
      go_wp2_with fail
      go_roundw
      case rel => exact ⟨k + 1, by omega, by go_num, by go_num, M.set k (k0 + 2 * k, k0 + 2 * k + 1), Lib.hid ⟨by rw [List.length_set]; exact hl.out, R2.out, R.out⟩, Lib.hid ((hnx.out.setR _ _).setR _ _)⟩
      case measure => simp [intOf]; omega
    · obtain rfl : k = n := by omega
      go_wp2_with fail
      go_ret
      refine ⟨rfl, M, hM.out.1, ?_, hM.out.2.2, hnx.out⟩
      intro j hj
      exact hM.out.2.1 j (by rw [← hM.out.1]; exact hj)

set_option maxRecDepth 100000 in
set_option maxHeartbeats 2000000 in
theorem heldP_at (b off ca : Nat) (k0 : Int) (M : List Pid) (w : World) (hM : MarkedP k0 M) (hb : b < w.heap.size) (hm : M.length ≤ 2000000) (h : ∀ i, i < M.length → w.cell? ⟨b, off + i * 2, none⟩ = some (.int .i64 (M.getD i nop).1) ∧ w.cell? ⟨b, off + i * 2 + 1, none⟩ = some (.int .i64 (M.getD i nop).2)) (h0 : 0 ≤ k0) (h1 : k0 ≤ 1000000000) :
    Calls Tryd.prog 59 #[.slice (some ⟨b, off, none⟩) M.length ca, .int .i64 k0] w fun e w' => e = .returned (.int .i64 (k0 + 2 * M.length)) ∧ Below w.heap.size w w' := by
  have h : Hid (∀ i, i < M.length → w.cell? ⟨b, off + i * 2, none⟩ = some (.int .i64 (k0 + 2 * i)) ∧ w.cell? ⟨b, off + i * 2 + 1, none⟩ = some (.int .i64 (k0 + 2 * i + 1))) := Lib.hid fun i hi => by
    have := h i hi
    rw [hM i hi] at this
    exact this
  clear hM
  generalize M.length = n at hm h ⊢
  go_enter Tryd.func59, Tryd.ntmps59
  go_wp2_with fail
  go_loopw [1, 5] (fun q i wr => ∃ k : Nat, k ≤ n ∧ i = .int .i64 k ∧ q = .int .i64 (k0 + 2 * k) ∧ Below w.heap.size w wr) (fun _ i _ => n - (intOf i).toNat)
  case atStart => exact ⟨0, Nat.zero_le _, rfl, by simp, Below.refl _ _⟩
  case round =>
    obtain ⟨k, hk, rfl, rfl, hnx⟩ := hrel
    by_cases hlt : k < n
    · have c0 := (hnx.cell (p := ⟨b, off + k * 2, none⟩) hb).trans (h.out k hlt).1
      have c1 := (hnx.cell (p := ⟨b, off + k * 2 + 1, none⟩) hb).trans (h.out k hlt).2
      have hnx := Lib.hid hnx
      go_wp2_with fail
      go_roundw
      case rel => exact ⟨k + 1, by omega, by go_num, by go_num, hnx.out⟩
      case measure => simp [intOf]; omega
    · obtain rfl : k = n := by omega
      have hnx := Lib.hid hnx
      go_wp2_with fail
      go_ret
      exact ⟨rfl, hnx.out⟩

theorem heldP_nil (a : Option Addr) (ca : Nat) (k0 : Int) (w : World) :
    Calls Tryd.prog 59 #[.slice a 0 ca, .int .i64 k0] w fun e w' => e = .returned (.int .i64 (k0 + 2 * (0 : Nat))) ∧ Below w.heap.size w w' := by
  go_enter Tryd.func59, Tryd.ntmps59
  go_wp2_with fail
  refine wp_loop_rounds 1 ?_
  rw [rounds_succ]
  go_wp2_with fail
  go_ret
  exact ⟨by simp, Below.refl _ _⟩

/-- THE MARKS ARE THERE. -/
theorem heldP_any (u : Value) (k0 : Int) (M : List Pid) (w : World) (hM : MarkedP k0 M) (h : Ids w u M) (h0 : 0 ≤ k0) (h1 : k0 ≤ 1000000000) :
    Calls Tryd.prog 59 #[u, .int .i64 k0] w fun e w' => e = .returned (.int .i64 (k0 + 2 * M.length)) ∧ Below w.heap.size w w' := by
  obtain ⟨a, cap, rfl, h2, h3, h4⟩ := h
  rcases h4 with h4 | ⟨b, off, rfl, h5, h6⟩
  · rw [h4]
    exact heldP_nil a cap k0 w
  · exact heldP_at b off cap k0 M w hM h5 h3 h6 h0 h1
end Go.Proofs.YtfcjhojkfchccaaDoor

/- The laws' markIdS on a block with room. -/
namespace Go.Proofs.YtfcjhojkfchccaaDoor
open Go.RowKit
set_option linter.unusedVariables false

/-- A block with room. -/
def Sz (w : World) (b m : Nat) : Prop := ∃ cur t, w.heap[b]? = some (.cells cur t (0, 0)) ∧ m ≤ cur.size
theorem Sz.lt {w : World} {b m : Nat} (h : Sz w b m) : b < w.heap.size := by obtain ⟨_, _, h, _⟩ := h; exact lt_of_heap h
theorem Sz.cell {w : World} {b m j : Nat} (h : Sz w b m) (hj : j < m) : ∃ y, w.cell? ⟨b, j, none⟩ = some y := by
  obtain ⟨cur, t, h1, h2⟩ := h
  exact ⟨_, (cell_of_cells h1).trans (Array.getElem?_eq_getElem (by omega))⟩
theorem Sz.free {w : World} {b m : Nat} (h : Sz w b m) (j : Nat) : w.frozen? ⟨b, j, none⟩ = false := by
  obtain ⟨cur, t, h1, h2⟩ := h; simp [World.frozen?, h1]
theorem Sz.set {w : World} {b m : Nat} (h : Sz w b m) (c o : Nat) (v : Value) : Sz (w.setCell ⟨c, o, none⟩ v) b m := by
  obtain ⟨cur, t, h1, h2⟩ := h
  by_cases e : b = c
  · subst e; exact ⟨_, t, heap_setCell_same w b o cur t v h1, by simpa using h2⟩
  · exact ⟨cur, t, (heap_setCell_other w ⟨c, o, none⟩ b v e).trans h1, h2⟩
theorem OwnP.sz {w : World} {b : Nat} {v : Value} {C : List Pid} (h : OwnP w b v C) : Sz w b (2 * C.length) := by
  obtain ⟨cap, cur, t, _, h1, _, _, h4⟩ := h
  refine ⟨cur, t, h1, ?_⟩
  by_cases hz : C.length = 0
  · omega
  · have := (h4 (C.length - 1) (by omega)).2
    rcases Nat.lt_or_ge ((C.length - 1) * 2 + 1) cur.size with hh | hh
    · omega
    · rw [Array.getElem?_eq_none hh] at this; exact absurd this (by simp)
/-- Worlds where each block keeps its room. -/
def Rm (w w' : World) : Prop := ∀ b m, Sz w b m → Sz w' b m

set_option maxRecDepth 100000 in
set_option maxHeartbeats 2000000 in
theorem markZ_any (b n cap : Nat) (k0 : Int) (w : World) (h : Sz w b (2 * n)) (hn : n ≤ 2000000) (h0 : 0 ≤ k0) (h1 : k0 ≤ 1000000000000000) :
    Calls Tryd.prog 58 #[.slice (some ⟨b, 0, none⟩) n cap, .int .i64 k0] w fun e w' => e = .returned (.int .i64 (k0 + 2 * n)) ∧ Rm w w' ∧ Exc (fun c => c = b) w w' := by
  have h := Lib.hid h
  go_enter Tryd.func58, Tryd.ntmps58
  go_wp2_with fail
  go_loopw [1, 5] (fun q i wr => ∃ k : Nat, k ≤ n ∧ i = .int .i64 k ∧ q = .int .i64 (k0 + 2 * k) ∧ Hid (Rm w wr) ∧ Hid (Exc (fun c => c = b) w wr)) (fun _ i _ => n - (intOf i).toNat)
  case atStart => exact ⟨0, Nat.zero_le _, rfl, by simp, Lib.hid fun _ _ x => x, Lib.hid (Exc.refl _ _)⟩
  case round =>
    obtain ⟨k, hk, rfl, rfl, hR, hE⟩ := hrel
    by_cases hlt : k < n
    · have hS := hR.out _ _ h.out
      obtain ⟨y0, c0⟩ := hS.cell (j := k * 2) (by omega)
      obtain ⟨y1, c1⟩ := hS.cell (j := k * 2 + 1) (by omega)
      have f0 := hS.free (k * 2)
      have f1 := hS.free (k * 2 + 1)
      have hs := hS.lt
      clear hS
      have hR2 := Lib.hid (fun v u b' m' (x : Sz w b' m') => ((hR.out b' m' x).set b (k * 2) v).set b (k * 2 + 1) u)
      have hE2 := Lib.hid (fun v u => (hE.out.set (b := b) (.inl rfl) (k * 2) v).set (b := b) (.inl rfl) (k * 2 + 1) u)
      clear hR hE
      go_wp2_with fail
      go_roundw
      case rel => exact ⟨k + 1, by omega, by go_num, by go_num, Lib.hid (hR2.out _ _), Lib.hid (hE2.out _ _)⟩
      case measure => simp [intOf]; omega
    · obtain rfl : k = n := by omega
      go_wp2_with fail
      go_ret
      exact ⟨rfl, hR.out, hE.out⟩
end Go.Proofs.YtfcjhojkfchccaaDoor

/- A list of ids that a result has: the laws' markEntry. -/
namespace Go.Proofs.YtfcjhojkfchccaaDoor
open Go.RowKit
set_option linter.unusedVariables false

theorem markI_nil (a : Option Addr) (c : Nat) (k0 : Int) (w : World) :
    Calls Tryd.prog 58 #[.slice a 0 c, .int .i64 k0] w fun e w' => e = .returned (.int .i64 k0) ∧ Below w.heap.size w w' := by
  go_enter Tryd.func58, Tryd.ntmps58
  go_wp2_with fail
  refine wp_loop_rounds 1 ?_
  rw [rounds_succ]
  go_wp2_with fail
  go_ret
  exact ⟨rfl, Below.refl _ _⟩
theorem markI_z (B T : Nat) (u : Value) (C : List Pid) (k0 : Int) (w : World) (h : OwZ w B T u C) (h0 : 0 ≤ k0) (h1 : k0 ≤ 1000000000) :
    Calls Tryd.prog 58 #[u, .int .i64 k0] w fun e w' => e = .returned (.int .i64 (k0 + 2 * C.length)) ∧ ∃ M, M.length = C.length ∧ MarkedP k0 M ∧ OwZ w' B T u M ∧ Exc (fun c => B ≤ c ∧ c < T) w w' := by
  rcases h with ⟨rfl, a, c, rfl⟩ | ⟨b, hb, ht, h⟩
  · refine (markI_nil a c k0 w).mono ?_
    rintro e w' ⟨rfl, B⟩
    exact ⟨by simp, [], rfl, fun j hj => absurd hj (by simp), .inl ⟨rfl, a, c, rfl⟩, Exc.of B⟩
  · refine (markP_any b u C k0 w h h0 h1).mono ?_
    rintro e w' ⟨rfl, M, hM, hk, hO, K⟩
    exact ⟨rfl, M, hM, hk, .inr ⟨b, hb, ht, hO⟩, ⟨K.os, K.tape, K.output, K.size, fun c hc hn => K.block c hc (fun e => hn (by subst e; exact ⟨hb, ht⟩))⟩⟩

set_option maxRecDepth 100000 in
set_option maxHeartbeats 2000000 in
/-- MARKS IN AN ENTRY. -/
theorem markE_z (B T : Nat) (x : En) (u : Value) (C : List Pid) (k0 : Int) (w : World) (h : OwZ w B T u C) (h0 : 0 ≤ k0) (h1 : k0 ≤ 1000000000) :
    Calls Tryd.prog 26 #[env x u, .int .i64 k0] w fun e w' => e = .returned (.int .i64 (k0 + 2 * C.length)) ∧ ∃ M, M.length = C.length ∧ MarkedP k0 M ∧ OwZ w' B T u M ∧ Exc (fun c => B ≤ c ∧ c < T) w w' := by
  have sc := fun W (hb : Below w.heap.size w W) => markI_z B T u C k0 W (h.up hb) h0 h1
  obtain ⟨ua, un, uc, rfl⟩ : ∃ ua un uc, u = .slice ua un uc := by obtain ⟨a, c, e, _⟩ := h.read; exact ⟨a, _, c, e⟩
  unfold env
  have B0 := Lib.hid ((Below.refl w.heap.size w).alloc (Nat.le_refl _) (.cells #[.int .i64 x.id.1, .int .i64 x.id.2, .int .i64 x.bal, .int .i64 x.st, .int .i64 x.k, .int .i64 x.key, .int .i64 x.v, .int .i64 x.seq, .slice ua un uc] 29))
  clear h
  go_enter Tryd.func26, Tryd.ntmps26
  go_wp2_with fail
  refine (sc _ B0.out).mono ?_
  rintro e w1 ⟨rfl, M, hM, hk, hO, X⟩
  have R := Lib.hid (show ∃ M, M.length = C.length ∧ MarkedP k0 M ∧ OwZ w1 B T (.slice ua un uc) M ∧ Exc (fun c => B ≤ c ∧ c < T) w w1 from ⟨M, hM, hk, hO, (Exc.of B0.out).trans X (fun _ _ h => h)⟩)
  clear X hO hk hM sc B0
  go_wp2_with fail
  go_ret
  exact ⟨rfl, R.out⟩
end Go.Proofs.YtfcjhojkfchccaaDoor

/- The laws' heldEntry. -/
namespace Go.Proofs.YtfcjhojkfchccaaDoor
open Go.RowKit
set_option linter.unusedVariables false

set_option maxRecDepth 100000 in
set_option maxHeartbeats 2000000 in
/-- THE MARKS OF AN ENTRY ARE THERE. -/
theorem heldE_z (x : En) (u : Value) (k0 : Int) (M : List Pid) (w : World) (hM : MarkedP k0 M) (h : Ids w u M) (h0 : 0 ≤ k0) (h1 : k0 ≤ 1000000000) :
    Calls Tryd.prog 28 #[env x u, .int .i64 k0] w fun e w' => e = .returned (.int .i64 (k0 + 2 * M.length)) ∧ Below w.heap.size w w' := by
  have sc := fun W (hb : Below w.heap.size w W) => heldP_any u k0 M W hM (h.up hb (Nat.le_refl _)) h0 h1
  obtain ⟨ua, un, uc, rfl⟩ : ∃ ua un uc, u = .slice ua un uc := by obtain ⟨a, c, e, _⟩ := h; exact ⟨a, _, c, e⟩
  unfold env
  have hl : M.length ≤ 2000000 := by obtain ⟨_, _, _, _, h3, _⟩ := h; exact h3
  have B0 := Lib.hid ((Below.refl w.heap.size w).alloc (Nat.le_refl _) (.cells #[.int .i64 x.id.1, .int .i64 x.id.2, .int .i64 x.bal, .int .i64 x.st, .int .i64 x.k, .int .i64 x.key, .int .i64 x.v, .int .i64 x.seq, .slice ua un uc] 29))
  clear h hM
  generalize M.length = n at sc hl ⊢
  go_enter Tryd.func28, Tryd.ntmps28
  go_wp2_with fail
  refine (sc _ B0.out).mono ?_
  rintro e w1 ⟨rfl, B⟩
  have D := Lib.hid (bstep B0.out B)
  clear B sc B0
  go_wp2_with fail
  go_ret
  exact ⟨rfl, D.out⟩
end Go.Proofs.YtfcjhojkfchccaaDoor

/- The laws' size of an entry. -/
namespace Go.Proofs.YtfcjhojkfchccaaDoor
open Go.RowKit
set_option linter.unusedVariables false

set_option maxRecDepth 100000 in
theorem szE_any (p r bal st k key v s : Int) (ua : Option Addr) (un uc : Nat) (z : Int) (w : World) (hk : 0 ≤ z) (hk2 : z ≤ 1048576) (h : un ≤ 9223372036854775807) :
    Calls Tryd.prog 20 #[.agg #[.int .i64 p, .int .i64 r, .int .i64 bal, .int .i64 st, .int .i64 k, .int .i64 key, .int .i64 v, .int .i64 s, .slice ua un uc], .int .i64 z] w fun e w' => e = .returned (.int .i64 (if z < un then -1 else z - un)) ∧ Below w.heap.size w w' := by
  have sz := fun w => szP_gen ua un uc z w hk hk2 h
  by_cases hl : z < un
  · rw [if_pos hl] at sz ⊢
    go_enter Tryd.func20, Tryd.ntmps20
    go_wp2_with fail
    refine (sz _).mono ?_
    rintro e w1 ⟨rfl, hb⟩
    have D1 := Lib.hid (((Below.refl w.heap.size w).alloc (Nat.le_refl _) (.cells #[.int .i64 p, .int .i64 r, .int .i64 bal, .int .i64 st, .int .i64 k, .int .i64 key, .int .i64 v, .int .i64 s, .slice ua un uc] 48)).trans (hb.mono (by simp)))
    clear hb sz
    go_wp2_with fail
    go_ret
    exact ⟨rfl, D1.out⟩
  · rw [if_neg hl] at sz ⊢
    obtain ⟨y, hz⟩ : ∃ y, z - (un : Int) = y := ⟨_, rfl⟩
    rw [hz] at sz ⊢
    have hz0 : ¬ y < 0 := by omega
    go_enter Tryd.func20, Tryd.ntmps20
    go_wp2_with fail
    refine (sz _).mono ?_
    rintro e w1 ⟨rfl, hb⟩
    have D1 := Lib.hid (((Below.refl w.heap.size w).alloc (Nat.le_refl _) (.cells #[.int .i64 p, .int .i64 r, .int .i64 bal, .int .i64 st, .int .i64 k, .int .i64 key, .int .i64 v, .int .i64 s, .slice ua un uc] 48)).trans (hb.mono (by simp)))
    clear hb sz
    go_wp2_with fail
    go_ret
    exact ⟨rfl, D1.out⟩
end Go.Proofs.YtfcjhojkfchccaaDoor

/- The laws' sizes of slices of entries. -/
namespace Go.Proofs.YtfcjhojkfchccaaDoor
open Go.RowKit
set_option linter.unusedVariables false

/-- An entry that came in: what it depends on may be long. -/
structure LE (w : World) (b o : Nat) (x : En) (ua : Option Addr) (un uc : Nat) : Prop where
  c0 : w.cell? ⟨b, o, none⟩ = some (.int .i64 x.id.1)
  c1 : w.cell? ⟨b, o + 1, none⟩ = some (.int .i64 x.id.2)
  c2 : w.cell? ⟨b, o + 2, none⟩ = some (.int .i64 x.bal)
  c3 : w.cell? ⟨b, o + 3, none⟩ = some (.int .i64 x.st)
  c4 : w.cell? ⟨b, o + 4, none⟩ = some (.int .i64 x.k)
  c5 : w.cell? ⟨b, o + 5, none⟩ = some (.int .i64 x.key)
  c6 : w.cell? ⟨b, o + 6, none⟩ = some (.int .i64 x.v)
  c7 : w.cell? ⟨b, o + 7, none⟩ = some (.int .i64 x.seq)
  c8 : w.cell? ⟨b, o + 8, none⟩ = some (.slice ua un uc)
  len : un ≤ maxLen
  ids : 1048576 < un ∨ ∃ C, Ids w (.slice ua un uc) C
/-- Entries that came in. -/
def LEs (w : World) (a : Option Addr) (len cap : Nat) : Prop := len ≤ maxLen ∧ len ≤ cap ∧ (len = 0 ∨ ∃ b off, a = some ⟨b, off, none⟩ ∧ b < w.heap.size ∧ ∀ i, i < len → ∃ x ua un uc, LE w b (off + i * 9) x ua un uc)

set_option maxRecDepth 100000 in
set_option maxHeartbeats 4000000 in
theorem szEs_at (b off ca n : Nat) (w : World) (hb : b < w.heap.size) (hm : n ≤ 9223372036854775807) (h : ∀ i, i < n → ∃ x ua un uc, LE w b (off + i * 9) x ua un uc) :
    Calls Tryd.prog 21 #[.slice (some ⟨b, off, none⟩) n ca, .int .i64 1048576] w fun e w' => (∃ z : Int, e = .returned (.int .i64 z) ∧ (z = -1 ∨ 0 ≤ z ∧ n ≤ 1048576 ∧ ∀ i, i < n → ∃ x u, EnAt w b (off + i * 9) x u)) ∧ Below w.heap.size w w' := by
  have h := Lib.hid h
  by_cases hl : 1048576 < n
  · go_enter Tryd.func21, Tryd.ntmps21
    go_wp2_with fail
    go_ret
    exact ⟨⟨_, rfl, .inl rfl⟩, Below.refl _ _⟩
  · go_enter Tryd.func21, Tryd.ntmps21
    go_wp2_with fail
    go_loopw [1, 5] (fun q i wr => ∃ (k : Nat) (l : Int), k ≤ n ∧ i = .int .i64 k ∧ q = .int .i64 l ∧ 0 ≤ l ∧ l ≤ 1048576 ∧ Hid (∀ i, i < k → ∃ x u, EnAt w b (off + i * 9) x u) ∧ Hid (Below w.heap.size w wr)) (fun _ i _ => n - (intOf i).toNat)
    case atStart => exact ⟨0, 1048576 - n, Nat.zero_le _, rfl, rfl, by omega, by omega, Lib.hid (fun i hi => absurd hi (Nat.not_lt_zero _)), Lib.hid (Below.refl _ _)⟩
    case round =>
      obtain ⟨k, l, hk, rfl, rfl, hl0, hl1, hd, hnx⟩ := hrel
      by_cases hlt : k < n
      · obtain ⟨x, ua, un, uc, hE⟩ := h.out k hlt
        have hcc : ∀ o, wr.cell? ⟨b, o, none⟩ = w.cell? ⟨b, o, none⟩ := fun o => hnx.out.cell (p := ⟨b, o, none⟩) hb
        have q0 := (hcc _).trans hE.c0
        have q1 := (hcc _).trans hE.c1
        have q2 := (hcc _).trans hE.c2
        have q3 := (hcc _).trans hE.c3
        have q4 := (hcc _).trans hE.c4
        have q5 := (hcc _).trans hE.c5
        have q6 := (hcc _).trans hE.c6
        have q7 := (hcc _).trans hE.c7
        have q8 := (hcc _).trans hE.c8
        have hun := hE.len
        have hbl := Nat.lt_of_lt_of_le hb hnx.out.size
        have hE := Lib.hid hE
        have sz := fun w => szE_any x.id.1 x.id.2 x.bal x.st x.k x.key x.v x.seq ua un uc l w hl0 hl1 (by simpa [maxLen] using hun)
        clear hcc
        by_cases hlu : l < un
        · rw [if_pos hlu] at sz
          clear hd h hE
          go_wp2_with fail
          refine (sz _).mono ?_
          rintro e w1 ⟨rfl, B⟩
          have D := Lib.hid (bstep hnx.out B)
          clear B sz q0 q1 q2 q3 q4 q5 q6 q7 q8
          go_wp2_with fail
          go_ret
          exact ⟨⟨_, rfl, .inl rfl⟩, D.out⟩
        · rw [if_neg hlu] at sz
          obtain ⟨y, hy⟩ : ∃ y, l - (un : Int) = y := ⟨_, rfl⟩
          have hy0 : ¬ y < 0 := by omega
          have hy1 : y ≤ 1048576 := by omega
          rw [hy] at sz
          have hd1 := Lib.hid (up_to hd.out (show ∃ x u, EnAt w b (off + k * 9) x u from by
            obtain ⟨C, hC⟩ := hE.out.ids.resolve_left (by omega)
            have g := hE.out
            exact ⟨{ x with deps := C }, .slice ua un uc, g.c0, g.c1, g.c2, g.c3, g.c4, g.c5, g.c6, g.c7, g.c8, hC⟩))
          clear hd hE hy hlu
          go_wp2_with fail
          refine (sz _).mono ?_
          rintro e w1 ⟨rfl, B⟩
          have D := Lib.hid (bstep hnx.out B)
          clear B sz q0 q1 q2 q3 q4 q5 q6 q7 q8
          go_wp2_with fail
          refine ⟨⟨k + 1, y, by omega, by go_num, rfl, by omega, hy1, hd1, D⟩, ?_⟩
          simp [intOf]; omega
      · obtain rfl : k = n := by omega
        go_wp2_with fail
        go_ret
        exact ⟨⟨_, rfl, .inr ⟨hl0, by omega, hd.out⟩⟩, hnx.out⟩

theorem szEs_nil (a : Option Addr) (ca : Nat) (w : World) :
    Calls Tryd.prog 21 #[.slice a 0 ca, .int .i64 1048576] w fun e w' => e = .returned (.int .i64 1048576) ∧ Below w.heap.size w w' := by
  go_enter Tryd.func21, Tryd.ntmps21
  go_wp2_with fail
  refine wp_loop_rounds 1 ?_
  rw [rounds_succ]
  go_wp2_with fail
  go_ret
  exact ⟨rfl, Below.refl _ _⟩

theorem ens_of {w : World} {b off n cap : Nat} (hb : b < w.heap.size) (hc : n ≤ cap) (hl : n ≤ 2000000) (h : ∀ i, i < n → ∃ x u, EnAt w b (off + i * 9) x u) : ∃ E : List En, E.length = n ∧ Ens w (.slice (some ⟨b, off, none⟩) n cap) E := by
  have h' : ∀ i, ∃ xu : En × Value, i < n → EnAt w b (off + i * 9) xu.1 xu.2 := fun i => by
    by_cases hi : i < n
    · obtain ⟨x, u, he⟩ := h i hi; exact ⟨(x, u), fun _ => he⟩
    · exact ⟨(en0, .slice none 0 0), fun hh => absurd hh hi⟩
  let f := fun i => Classical.choose (h' i)
  have hf : ∀ i, i < n → EnAt w b (off + i * 9) (f i).1 (f i).2 := fun i hi => Classical.choose_spec (h' i) hi
  have hlen : ((List.range n).map fun i => (f i).1).length = n := by simp
  refine ⟨(List.range n).map fun i => (f i).1, hlen, some ⟨b, off, none⟩, cap, by rw [hlen], by rw [hlen]; exact hc, by rw [hlen]; exact hl, .inr ⟨b, off, fun i => (f i).2, rfl, hb, fun i hi => ?_⟩⟩
  rw [hlen] at hi
  have e : ((List.range n).map fun i => (f i).1).getD i en0 = (f i).1 := by
    rw [List.getD_eq_getElem?_getD, List.getElem?_map, List.getElem?_range hi]; rfl
  rw [e]
  exact hf i hi

/-- WHAT szEntryS ANSWERS: where it is not below 0, the entries can be read. -/
theorem szEs_any (a : Option Addr) (len cap : Nat) (w : World) (h : LEs w a len cap) :
    Calls Tryd.prog 21 #[.slice a len cap, .int .i64 1048576] w fun e w' => (∃ z : Int, e = .returned (.int .i64 z) ∧ (z = -1 ∨ 0 ≤ z ∧ ∃ E : List En, E.length = len ∧ Ens w (.slice a len cap) E)) ∧ Below w.heap.size w w' := by
  obtain ⟨h1, h2, h3⟩ := h
  rcases h3 with rfl | ⟨b, off, rfl, hb, hc⟩
  · refine (szEs_nil a cap w).mono ?_
    rintro e w' ⟨rfl, B⟩
    exact ⟨⟨_, rfl, .inr ⟨by omega, [], rfl, a, cap, rfl, Nat.zero_le _, Nat.zero_le _, .inl rfl⟩⟩, B⟩
  · refine (szEs_at b off cap len w hb (by simpa [maxLen] using h1) hc).mono ?_
    rintro e w' ⟨⟨z, rfl, hz⟩, B⟩
    refine ⟨⟨z, rfl, ?_⟩, B⟩
    rcases hz with hz | ⟨hz, hl, hE⟩
    · exact .inl hz
    · exact .inr ⟨hz, ens_of hb h2 (by omega) hE⟩
end Go.Proofs.YtfcjhojkfchccaaDoor

/- The laws' sizes of slices of entries, out of any rest. -/
namespace Go.Proofs.YtfcjhojkfchccaaDoor
open Go.RowKit
set_option linter.unusedVariables false

set_option maxRecDepth 100000 in
set_option maxHeartbeats 4000000 in
theorem szEc_at (b off ca n : Nat) (z0 : Int) (hz0 : 0 ≤ z0) (hz1 : z0 ≤ 1048576) (w : World) (hb : b < w.heap.size) (hm : n ≤ 9223372036854775807) (h : ∀ i, i < n → ∃ x ua un uc, LE w b (off + i * 9) x ua un uc) :
    Calls Tryd.prog 21 #[.slice (some ⟨b, off, none⟩) n ca, .int .i64 z0] w fun e w' => (∃ z : Int, e = .returned (.int .i64 z) ∧ (z = -1 ∨ 0 ≤ z ∧ z ≤ 1048576 ∧ n ≤ 1048576 ∧ ∀ i, i < n → ∃ x u, EnAt w b (off + i * 9) x u)) ∧ Below w.heap.size w w' := by
  have h := Lib.hid h
  by_cases hl : z0 < (n : Int)
  · go_enter Tryd.func21, Tryd.ntmps21
    go_wp2_with fail
    go_ret
    exact ⟨⟨_, rfl, .inl rfl⟩, Below.refl _ _⟩
  · go_enter Tryd.func21, Tryd.ntmps21
    go_wp2_with fail
    go_loopw [1, 5] (fun q i wr => ∃ (k : Nat) (l : Int), k ≤ n ∧ i = .int .i64 k ∧ q = .int .i64 l ∧ 0 ≤ l ∧ l ≤ 1048576 ∧ Hid (∀ i, i < k → ∃ x u, EnAt w b (off + i * 9) x u) ∧ Hid (Below w.heap.size w wr)) (fun _ i _ => n - (intOf i).toNat)
    case atStart => exact ⟨0, z0 - n, Nat.zero_le _, rfl, rfl, by omega, by omega, Lib.hid (fun i hi => absurd hi (Nat.not_lt_zero _)), Lib.hid (Below.refl _ _)⟩
    case round =>
      obtain ⟨k, l, hk, rfl, rfl, hl0, hl1, hd, hnx⟩ := hrel
      by_cases hlt : k < n
      · obtain ⟨x, ua, un, uc, hE⟩ := h.out k hlt
        have hcc : ∀ o, wr.cell? ⟨b, o, none⟩ = w.cell? ⟨b, o, none⟩ := fun o => hnx.out.cell (p := ⟨b, o, none⟩) hb
        have q0 := (hcc _).trans hE.c0
        have q1 := (hcc _).trans hE.c1
        have q2 := (hcc _).trans hE.c2
        have q3 := (hcc _).trans hE.c3
        have q4 := (hcc _).trans hE.c4
        have q5 := (hcc _).trans hE.c5
        have q6 := (hcc _).trans hE.c6
        have q7 := (hcc _).trans hE.c7
        have q8 := (hcc _).trans hE.c8
        have hun := hE.len
        have hbl := Nat.lt_of_lt_of_le hb hnx.out.size
        have hE := Lib.hid hE
        have sz := fun w => szE_any x.id.1 x.id.2 x.bal x.st x.k x.key x.v x.seq ua un uc l w hl0 hl1 (by simpa [maxLen] using hun)
        clear hcc
        by_cases hlu : l < un
        · rw [if_pos hlu] at sz
          clear hd h hE
          go_wp2_with fail
          refine (sz _).mono ?_
          rintro e w1 ⟨rfl, B⟩
          have D := Lib.hid (bstep hnx.out B)
          clear B sz q0 q1 q2 q3 q4 q5 q6 q7 q8
          go_wp2_with fail
          go_ret
          exact ⟨⟨_, rfl, .inl rfl⟩, D.out⟩
        · rw [if_neg hlu] at sz
          obtain ⟨y, hy⟩ : ∃ y, l - (un : Int) = y := ⟨_, rfl⟩
          have hy0 : ¬ y < 0 := by omega
          have hy1 : y ≤ 1048576 := by omega
          rw [hy] at sz
          have hd1 := Lib.hid (up_to hd.out (show ∃ x u, EnAt w b (off + k * 9) x u from by
            obtain ⟨C, hC⟩ := hE.out.ids.resolve_left (by omega)
            have g := hE.out
            exact ⟨{ x with deps := C }, .slice ua un uc, g.c0, g.c1, g.c2, g.c3, g.c4, g.c5, g.c6, g.c7, g.c8, hC⟩))
          clear hd hE hy hlu
          go_wp2_with fail
          refine (sz _).mono ?_
          rintro e w1 ⟨rfl, B⟩
          have D := Lib.hid (bstep hnx.out B)
          clear B sz q0 q1 q2 q3 q4 q5 q6 q7 q8
          go_wp2_with fail
          refine ⟨⟨k + 1, y, by omega, by go_num, rfl, by omega, hy1, hd1, D⟩, ?_⟩
          simp [intOf]; omega
      · obtain rfl : k = n := by omega
        go_wp2_with fail
        go_ret
        exact ⟨⟨_, rfl, .inr ⟨hl0, hl1, by omega, hd.out⟩⟩, hnx.out⟩

theorem szEc_nil (a : Option Addr) (ca : Nat) (z0 : Int) (hz0 : 0 ≤ z0) (hz1 : z0 ≤ 1048576) (w : World) :
    Calls Tryd.prog 21 #[.slice a 0 ca, .int .i64 z0] w fun e w' => e = .returned (.int .i64 z0) ∧ Below w.heap.size w w' := by
  go_enter Tryd.func21, Tryd.ntmps21
  go_wp2_with fail
  refine wp_loop_rounds 1 ?_
  rw [rounds_succ]
  go_wp2_with fail
  go_ret
  exact ⟨rfl, Below.refl _ _⟩
/-- WHAT szEntryS ANSWERS: where it is not below 0, the entries can be read. -/
theorem szEc_any (a : Option Addr) (len cap : Nat) (z0 : Int) (hz0 : 0 ≤ z0) (hz1 : z0 ≤ 1048576) (w : World) (h : LEs w a len cap) :
    Calls Tryd.prog 21 #[.slice a len cap, .int .i64 z0] w fun e w' => (∃ z : Int, e = .returned (.int .i64 z) ∧ (z = -1 ∨ 0 ≤ z ∧ z ≤ 1048576 ∧ ∃ E : List En, E.length = len ∧ Ens w (.slice a len cap) E)) ∧ Below w.heap.size w w' := by
  obtain ⟨h1, h2, h3⟩ := h
  rcases h3 with rfl | ⟨b, off, rfl, hb, hc⟩
  · refine (szEc_nil a cap z0 hz0 hz1 w).mono ?_
    rintro e w' ⟨rfl, B⟩
    exact ⟨⟨_, rfl, .inr ⟨by omega, by omega, [], rfl, a, cap, rfl, Nat.zero_le _, Nat.zero_le _, .inl rfl⟩⟩, B⟩
  · refine (szEc_at b off cap len z0 hz0 hz1 w hb (by simpa [maxLen] using h1) hc).mono ?_
    rintro e w' ⟨⟨z, rfl, hz⟩, B⟩
    refine ⟨⟨z, rfl, ?_⟩, B⟩
    rcases hz with hz | ⟨hz, hz2, hl, hE⟩
    · exact .inl hz
    · exact .inr ⟨hz, hz2, ens_of hb h2 (by omega) hE⟩
end Go.Proofs.YtfcjhojkfchccaaDoor
