/- Texts laid together. -/
import Derived.Test.YtiolhjjkjmepcaaGreatDoorC01
import Derived.Test.YtiolhjjkjmepcaaGreatDoorC14
import Derived.Test.YtiolhjjkjmepcaaGreatDoorC11
import Derived.Test.YtiolhjjkjmepcaaGreatDoorC10
import Derived.Deep.RegionWith
import Derived.Test.YtiolhjjkjmepcaaGreatDoorC34
/- The laws' sizes of slices of ids. -/
namespace Go.Proofs.YtiolhjjkjmepcaaGreatDoor
open Go.RowKit
set_option linter.unusedVariables false

theorem szP_any (a : Option Addr) (n cap : Nat) (k : Int) (w : World) (hk : k = 1048576) (h : n ≤ 9223372036854775807) :
    Calls Tryz.prog 50 #[.slice a n cap, .int .i64 k] w fun e w' => e = .returned (.int .i64 (if 1048576 < n then -1 else 1048576 - n)) ∧ Below w.heap.size w w' := by
  subst hk
  by_cases hl : 1048576 < n
  · rw [if_pos hl]
    go_enter Tryz.func50, Tryz.ntmps50
    go_wp2_with fail
    go_ret
    exact ⟨rfl, Below.refl _ _⟩
  · rw [if_neg hl]
    go_enter Tryz.func50, Tryz.ntmps50
    go_wp2_with fail
    go_ret
    exact ⟨rfl, Below.refl _ _⟩

/-- .. with whatever is left. -/
theorem szP_gen (a : Option Addr) (n cap : Nat) (k : Int) (w : World) (hk : 0 ≤ k) (hk2 : k ≤ 1048576) (h : n ≤ 9223372036854775807) :
    Calls Tryz.prog 50 #[.slice a n cap, .int .i64 k] w fun e w' => e = .returned (.int .i64 (if k < n then -1 else k - n)) ∧ Below w.heap.size w w' := by
  by_cases hl : k < n
  · rw [if_pos hl]
    go_enter Tryz.func50, Tryz.ntmps50
    go_wp2_with fail
    go_ret
    exact ⟨rfl, Below.refl _ _⟩
  · rw [if_neg hl]
    go_enter Tryz.func50, Tryz.ntmps50
    go_wp2_with fail
    go_ret
    exact ⟨rfl, Below.refl _ _⟩
end Go.Proofs.YtiolhjjkjmepcaaGreatDoor

/- The laws' marks and sizes of slices of ids. -/
namespace Go.Proofs.YtiolhjjkjmepcaaGreatDoor
open Go.RowKit
set_option linter.unusedVariables false

theorem OwnP.cap_le {w : World} {b : Nat} {v : Value} {C : List Pid} (h : OwnP w b v C) : C.length ≤ 2000000 := by
  obtain ⟨_, _, _, _, _, _, h, _⟩ := h; exact h

/-- Marks from k on, two an id. -/
def MarkedP (k : Int) (M : List Pid) : Prop := ∀ j : Nat, j < M.length → M.getD j nop = (k + 2 * j, k + 2 * j + 1)

theorem markP_up {M : List Pid} {k0 : Int} {k : Nat} (hM : k < M.length) (h : ∀ j : Nat, j < k → M.getD j nop = (k0 + 2 * j, k0 + 2 * j + 1)) : ∀ j : Nat, j < k + 1 → (M.set k (k0 + 2 * k, k0 + 2 * k + 1)).getD j nop = (k0 + 2 * j, k0 + 2 * j + 1) := by
  intro j hj
  by_cases e : j = k
  · subst e; rw [List.getD_eq_getElem?_getD, List.getElem?_set_self hM]; rfl
  · rw [List.getD_eq_getElem?_getD, List.getElem?_set_ne (fun x => e x.symm), ← List.getD_eq_getElem?_getD]; exact h j (by omega)

set_option maxRecDepth 100000 in
set_option maxHeartbeats 2000000 in
theorem markP_any (b : Nat) (u : Value) (C : List Pid) (k0 : Int) (w : World) (h : OwnP w b u C) (h0 : 0 ≤ k0) (h1 : k0 ≤ 1000000000) :
    Calls Tryz.prog 57 #[u, .int .i64 k0] w fun e w' => e = .returned (.int .i64 (k0 + 2 * C.length)) ∧ ∃ M, M.length = C.length ∧ MarkedP k0 M ∧ OwnP w' b u M ∧ Keep w.heap.size b w w' := by
  have hm := h.cap_le
  obtain ⟨cap, rfl, hcap⟩ := h.shape
  obtain ⟨n, hn⟩ : ∃ n, Hid (C.length = n) := ⟨_, Lib.hid rfl⟩
  rw [hn.out] at h hcap hm ⊢
  have h := Lib.hid h
  go_enter Tryz.func57, Tryz.ntmps57
  go_wp2_with fail
  go_loopw [1, 5] (fun q i wr => ∃ k : Nat, k ≤ n ∧ i = .int .i64 k ∧ q = .int .i64 (k0 + 2 * k) ∧ ∃ M : List Pid, Hid (M.length = n ∧ (∀ j : Nat, j < k → M.getD j nop = (k0 + 2 * j, k0 + 2 * j + 1)) ∧ OwnP wr b (.slice (some ⟨b, 0, none⟩) n cap) M) ∧ Hid (Keep w.heap.size b w wr)) (fun _ i _ => n - (intOf i).toNat)
  case atStart => exact ⟨0, Nat.zero_le _, rfl, by simp, C, Lib.hid ⟨hn.out, fun j hj => absurd hj (Nat.not_lt_zero _), h.out⟩, Lib.hid (Keep.refl _ _ _)⟩
  case round =>
    obtain ⟨k, hk, rfl, rfl, M, hM, hnx⟩ := hrel
    clear h
    by_cases hlt : k < n
    · obtain ⟨c0, c1⟩ := hM.out.2.2.cell k (by rw [hM.out.1]; exact hlt)
      have f0 := hM.out.2.2.free (k * 2)
      have f1 := hM.out.2.2.free (k * 2 + 1)
      have hs := hM.out.2.2.lt
      have R := Lib.hid (hM.out.2.2.set k (by rw [hM.out.1]; exact hlt) (k0 + 2 * k, k0 + 2 * k + 1))
      have R2 := Lib.hid (markP_up (by rw [hM.out.1]; exact hlt) hM.out.2.1)
      have hl := Lib.hid hM.out.1
      generalize M.getD k nop = y at c0 c1
      clear hM
      go_wp2_with fail
      go_roundw
      case rel => exact ⟨k + 1, by omega, by go_num, by go_num, M.set k (k0 + 2 * k, k0 + 2 * k + 1), Lib.hid ⟨by rw [List.length_set]; exact hl.out, R2.out, R.out⟩, Lib.hid ((hnx.out.setR _ _).setR _ _)⟩
      case measure => simp [intOf]; omega
    · obtain rfl : k = n := by omega
      go_wp2_with fail
      go_ret
      refine ⟨rfl, M, hM.out.1, ?_, hM.out.2.2, hnx.out⟩
      intro j hj
      exact hM.out.2.1 j (by rw [← hM.out.1]; exact hj)

set_option maxRecDepth 100000 in
set_option maxHeartbeats 2000000 in
theorem heldP_at (b off ca : Nat) (k0 : Int) (M : List Pid) (w : World) (hM : MarkedP k0 M) (hb : b < w.heap.size) (hm : M.length ≤ 2000000) (h : ∀ i, i < M.length → w.cell? ⟨b, off + i * 2, none⟩ = some (.int .i64 (M.getD i nop).1) ∧ w.cell? ⟨b, off + i * 2 + 1, none⟩ = some (.int .i64 (M.getD i nop).2)) (h0 : 0 ≤ k0) (h1 : k0 ≤ 1000000000) :
    Calls Tryz.prog 58 #[.slice (some ⟨b, off, none⟩) M.length ca, .int .i64 k0] w fun e w' => e = .returned (.int .i64 (k0 + 2 * M.length)) ∧ Below w.heap.size w w' := by
  have h : Hid (∀ i, i < M.length → w.cell? ⟨b, off + i * 2, none⟩ = some (.int .i64 (k0 + 2 * i)) ∧ w.cell? ⟨b, off + i * 2 + 1, none⟩ = some (.int .i64 (k0 + 2 * i + 1))) := Lib.hid fun i hi => by
    have := h i hi
    rw [hM i hi] at this
    exact this
  clear hM
  generalize M.length = n at hm h ⊢
  go_enter Tryz.func58, Tryz.ntmps58
  go_wp2_with fail
  go_loopw [1, 5] (fun q i wr => ∃ k : Nat, k ≤ n ∧ i = .int .i64 k ∧ q = .int .i64 (k0 + 2 * k) ∧ Below w.heap.size w wr) (fun _ i _ => n - (intOf i).toNat)
  case atStart => exact ⟨0, Nat.zero_le _, rfl, by simp, Below.refl _ _⟩
  case round =>
    obtain ⟨k, hk, rfl, rfl, hnx⟩ := hrel
    by_cases hlt : k < n
    · have c0 := (hnx.cell (p := ⟨b, off + k * 2, none⟩) hb).trans (h.out k hlt).1
      have c1 := (hnx.cell (p := ⟨b, off + k * 2 + 1, none⟩) hb).trans (h.out k hlt).2
      have hnx := Lib.hid hnx
      go_wp2_with fail
      go_roundw
      case rel => exact ⟨k + 1, by omega, by go_num, by go_num, hnx.out⟩
      case measure => simp [intOf]; omega
    · obtain rfl : k = n := by omega
      have hnx := Lib.hid hnx
      go_wp2_with fail
      go_ret
      exact ⟨rfl, hnx.out⟩

theorem heldP_nil (a : Option Addr) (ca : Nat) (k0 : Int) (w : World) :
    Calls Tryz.prog 58 #[.slice a 0 ca, .int .i64 k0] w fun e w' => e = .returned (.int .i64 (k0 + 2 * (0 : Nat))) ∧ Below w.heap.size w w' := by
  go_enter Tryz.func58, Tryz.ntmps58
  go_wp2_with fail
  refine wp_loop_rounds 1 ?_
  rw [rounds_succ]
  go_wp2_with fail
  go_ret
  exact ⟨by simp, Below.refl _ _⟩

/-- THE MARKS ARE THERE. -/
theorem heldP_any (u : Value) (k0 : Int) (M : List Pid) (w : World) (hM : MarkedP k0 M) (h : Ids w u M) (h0 : 0 ≤ k0) (h1 : k0 ≤ 1000000000) :
    Calls Tryz.prog 58 #[u, .int .i64 k0] w fun e w' => e = .returned (.int .i64 (k0 + 2 * M.length)) ∧ Below w.heap.size w w' := by
  obtain ⟨a, cap, rfl, h2, h3, h4⟩ := h
  rcases h4 with h4 | ⟨b, off, rfl, h5, h6⟩
  · rw [h4]
    exact heldP_nil a cap k0 w
  · exact heldP_at b off cap k0 M w hM h5 h3 h6 h0 h1
end Go.Proofs.YtiolhjjkjmepcaaGreatDoor

/- The laws' markIdS on a block with room. -/
namespace Go.Proofs.YtiolhjjkjmepcaaGreatDoor
open Go.RowKit
set_option linter.unusedVariables false

/-- A block with room. -/
def Sz (w : World) (b m : Nat) : Prop := ∃ cur t, w.heap[b]? = some (.cells cur t (0, 0)) ∧ m ≤ cur.size
theorem Sz.lt {w : World} {b m : Nat} (h : Sz w b m) : b < w.heap.size := by obtain ⟨_, _, h, _⟩ := h; exact lt_of_heap h
theorem Sz.cell {w : World} {b m j : Nat} (h : Sz w b m) (hj : j < m) : ∃ y, w.cell? ⟨b, j, none⟩ = some y := by
  obtain ⟨cur, t, h1, h2⟩ := h
  exact ⟨_, (cell_of_cells h1).trans (Array.getElem?_eq_getElem (by omega))⟩
theorem Sz.free {w : World} {b m : Nat} (h : Sz w b m) (j : Nat) : w.frozen? ⟨b, j, none⟩ = false := by
  obtain ⟨cur, t, h1, h2⟩ := h; simp [World.frozen?, h1]
theorem Sz.set {w : World} {b m : Nat} (h : Sz w b m) (c o : Nat) (v : Value) : Sz (w.setCell ⟨c, o, none⟩ v) b m := by
  obtain ⟨cur, t, h1, h2⟩ := h
  by_cases e : b = c
  · subst e; exact ⟨_, t, heap_setCell_same w b o cur t v h1, by simpa using h2⟩
  · exact ⟨cur, t, (heap_setCell_other w ⟨c, o, none⟩ b v e).trans h1, h2⟩
theorem OwnP.sz {w : World} {b : Nat} {v : Value} {C : List Pid} (h : OwnP w b v C) : Sz w b (2 * C.length) := by
  obtain ⟨cap, cur, t, _, h1, _, _, h4⟩ := h
  refine ⟨cur, t, h1, ?_⟩
  by_cases hz : C.length = 0
  · omega
  · have := (h4 (C.length - 1) (by omega)).2
    rcases Nat.lt_or_ge ((C.length - 1) * 2 + 1) cur.size with hh | hh
    · omega
    · rw [Array.getElem?_eq_none hh] at this; exact absurd this (by simp)
/-- Worlds where each block keeps its room. -/
def Rm (w w' : World) : Prop := ∀ b m, Sz w b m → Sz w' b m

set_option maxRecDepth 100000 in
set_option maxHeartbeats 2000000 in
theorem markZ_any (b n cap : Nat) (k0 : Int) (w : World) (h : Sz w b (2 * n)) (hn : n ≤ 2000000) (h0 : 0 ≤ k0) (h1 : k0 ≤ 1000000000000000) :
    Calls Tryz.prog 57 #[.slice (some ⟨b, 0, none⟩) n cap, .int .i64 k0] w fun e w' => e = .returned (.int .i64 (k0 + 2 * n)) ∧ Rm w w' ∧ Exc (fun c => c = b) w w' := by
  have h := Lib.hid h
  go_enter Tryz.func57, Tryz.ntmps57
  go_wp2_with fail
  go_loopw [1, 5] (fun q i wr => ∃ k : Nat, k ≤ n ∧ i = .int .i64 k ∧ q = .int .i64 (k0 + 2 * k) ∧ Hid (Rm w wr) ∧ Hid (Exc (fun c => c = b) w wr)) (fun _ i _ => n - (intOf i).toNat)
  case atStart => exact ⟨0, Nat.zero_le _, rfl, by simp, Lib.hid fun _ _ x => x, Lib.hid (Exc.refl _ _)⟩
  case round =>
    obtain ⟨k, hk, rfl, rfl, hR, hE⟩ := hrel
    by_cases hlt : k < n
    · have hS := hR.out _ _ h.out
      obtain ⟨y0, c0⟩ := hS.cell (j := k * 2) (by omega)
      obtain ⟨y1, c1⟩ := hS.cell (j := k * 2 + 1) (by omega)
      have f0 := hS.free (k * 2)
      have f1 := hS.free (k * 2 + 1)
      have hs := hS.lt
      clear hS
      have hR2 := Lib.hid (fun v u b' m' (x : Sz w b' m') => ((hR.out b' m' x).set b (k * 2) v).set b (k * 2 + 1) u)
      have hE2 := Lib.hid (fun v u => (hE.out.set (b := b) (.inl rfl) (k * 2) v).set (b := b) (.inl rfl) (k * 2 + 1) u)
      clear hR hE
      go_wp2_with fail
      go_roundw
      case rel => exact ⟨k + 1, by omega, by go_num, by go_num, Lib.hid (hR2.out _ _), Lib.hid (hE2.out _ _)⟩
      case measure => simp [intOf]; omega
    · obtain rfl : k = n := by omega
      go_wp2_with fail
      go_ret
      exact ⟨rfl, hR.out, hE.out⟩
end Go.Proofs.YtiolhjjkjmepcaaGreatDoor

/- The laws' markEntryS, heldEntryS: what they leave of other memory. -/
namespace Go.Proofs.YtiolhjjkjmepcaaGreatDoor
open Go.RowKit
set_option linter.unusedVariables false

/-- Entries that can be marked: their blocks lie from B to E. -/
structure MkE (w : World) (B E g n : Nat) (L : Nat → Nat × Nat × Nat) : Prop where
  blk : ∃ cur t, w.heap[g]? = some (.cells cur t (0, 0)) ∧ n * 9 ≤ cur.size ∧ ∀ i, i < n → cur[i * 9 + 8]? = some (.slice (some ⟨(L i).1, 0, none⟩) (L i).2.1 (L i).2.2)
  g0 : B ≤ g
  g1 : g < E
  deps : ∀ i, i < n → (L i).1 ≠ g ∧ B ≤ (L i).1 ∧ (L i).1 < E ∧ (L i).2.1 ≤ 2000000 ∧ Sz w (L i).1 (2 * (L i).2.1)
section
variable {w w' : World} {B E g n : Nat} {L : Nat → Nat × Nat × Nat}
theorem MkE.up (h : MkE w B E g n L) (hb : Below w.heap.size w w') : MkE w' B E g n L := by
  obtain ⟨cur, t, h1, h2, h3⟩ := h.blk
  refine ⟨⟨cur, t, (hb.block g (lt_of_heap h1)).trans h1, h2, h3⟩, h.g0, h.g1, fun i hi => ?_⟩
  obtain ⟨a1, a2, a3, a4, cur', t', a5, a6⟩ := h.deps i hi
  exact ⟨a1, a2, a3, a4, cur', t', (hb.block _ (lt_of_heap a5)).trans a5, a6⟩
theorem MkE.sz (h : MkE w B E g n L) : Sz w g (n * 9) := by obtain ⟨cur, t, h1, h2, _⟩ := h.blk; exact ⟨cur, t, h1, h2⟩
theorem MkE.head (h : MkE w B E g n L) {i : Nat} (hi : i < n) : w.cell? ⟨g, i * 9 + 8, none⟩ = some (.slice (some ⟨(L i).1, 0, none⟩) (L i).2.1 (L i).2.2) := by
  obtain ⟨cur, t, h1, _, h3⟩ := h.blk; rw [cell_of_cells h1]; exact h3 i hi
theorem MkE.setg (h : MkE w B E g n L) (k : Nat) {j : Nat} (hj : j < 8) (v : Value) : MkE (w.setCell ⟨g, k * 9 + j, none⟩ v) B E g n L := by
  obtain ⟨cur, t, h1, h2, h3⟩ := h.blk
  refine ⟨⟨_, t, heap_setCell_same w g (k * 9 + j) cur t v h1, by simpa using h2, fun i hi => ?_⟩, h.g0, h.g1, fun i hi => ?_⟩
  · rw [Array.getElem?_setIfInBounds, if_neg (by omega)]; exact h3 i hi
  · obtain ⟨a1, a2, a3, a4, a5⟩ := h.deps i hi; exact ⟨a1, a2, a3, a4, a5.set _ _ _⟩
theorem MkE.marked (h : MkE w B E g n L) {i : Nat} (hi : i < n) (hr : Rm w w') (he : Exc (fun c => c = (L i).1) w w') : MkE w' B E g n L := by
  obtain ⟨cur, t, h1, h2, h3⟩ := h.blk
  refine ⟨⟨cur, t, he.at (fun e => (h.deps i hi).1 e.symm) h1, h2, h3⟩, h.g0, h.g1, fun j hj => ?_⟩
  obtain ⟨a1, a2, a3, a4, a5⟩ := h.deps j hj
  exact ⟨a1, a2, a3, a4, hr _ _ a5⟩
end
theorem EnO.mk {w : World} {B : Nat} {v : Value} {N : List En} (h : EnO w B v N) : ∃ g cap L, v = .slice (some ⟨g, 0, none⟩) N.length cap ∧ N.length ≤ 2000000 ∧ N.length ≤ cap ∧ MkE w B w.heap.size g N.length L := by
  obtain ⟨g, cap, cur, t, rfl, h0, hg, h1, h2, h3⟩ := h
  have hL : ∀ i, ∃ l : Nat × Nat × Nat, i < N.length → cur[i * 9 + 8]? = some (.slice (some ⟨l.1, 0, none⟩) l.2.1 l.2.2) ∧ l.1 ≠ g ∧ B ≤ l.1 ∧ l.1 < w.heap.size ∧ l.2.1 ≤ 2000000 ∧ Sz w l.1 (2 * l.2.1) := fun i => by
    by_cases hi : i < N.length
    · obtain ⟨b, u, q1, q2, hc, ho⟩ := h3 i hi
      have hl := ho.cap_le
      obtain ⟨uc, rfl, _⟩ := ho.shape
      exact ⟨(b, (N.getD i en0).deps.length, uc), fun _ => ⟨hc 8 (by omega), q2, q1, ho.lt, hl, ho.sz⟩⟩
    · exact ⟨(0, 0, 0), fun hh => absurd hh hi⟩
  refine ⟨g, cap, fun i => Classical.choose (hL i), rfl, h2, h1, ⟨⟨cur, t, hg, ?_, fun i hi => (Classical.choose_spec (hL i) hi).1⟩, h0, lt_of_heap hg, fun i hi => (Classical.choose_spec (hL i) hi).2⟩⟩
  by_cases hz : N.length = 0
  · omega
  · obtain ⟨b, u, _, _, hc, _⟩ := h3 (N.length - 1) (by omega)
    have c8 := hc 8 (by omega)
    rcases Nat.lt_or_ge ((N.length - 1) * 9 + 8) cur.size with hh | hh
    · omega
    · rw [Array.getElem?_eq_none hh] at c8; exact absurd c8 (by simp [enc9])

set_option maxRecDepth 100000 in
set_option maxHeartbeats 4000000 in
/-- MARKS IN ENTRIES: all else stays. -/
theorem markEs_le (B E g n cap : Nat) (L : Nat → Nat × Nat × Nat) (w : World) (hn : n ≤ 2000000) (h : MkE w B E g n L) :
    Calls Tryz.prog 30 #[.slice (some ⟨g, 0, none⟩) n cap, .int .i64 1] w fun e w' => ∃ z : Int, e = .returned (.int .i64 z) ∧ 0 ≤ z ∧ z ≤ 8000016000001 ∧ Exc (fun c => B ≤ c ∧ c < E) w w' := by
  have h := Lib.hid h
  have hg0 := h.out.g0
  have hg1 := h.out.g1
  go_enter Tryz.func30, Tryz.ntmps30
  go_wp2_with fail
  go_loopw [1, 5] (fun q i wr => ∃ (k : Nat) (z : Int), k ≤ n ∧ i = .int .i64 k ∧ q = .int .i64 z ∧ 0 ≤ z ∧ z ≤ 1 + 4000008 * k ∧ Hid (MkE wr B E g n L) ∧ Hid (Exc (fun c => B ≤ c ∧ c < E) w wr)) (fun _ i _ => n - (intOf i).toNat)
  case atStart => exact ⟨0, 1, Nat.zero_le _, rfl, rfl, by omega, by omega, h, Lib.hid (Exc.refl _ _)⟩
  case round =>
    clear h
    obtain ⟨k, z, hk, rfl, rfl, hz0, hz1, hM, hE⟩ := hrel
    by_cases hlt : k < n
    · have hS := hM.out.sz
      obtain ⟨y0, c0⟩ := hS.cell (j := k * 9) (by omega)
      obtain ⟨y1, c1⟩ := hS.cell (j := k * 9 + 1) (by omega)
      obtain ⟨y2, c2⟩ := hS.cell (j := k * 9 + 2) (by omega)
      obtain ⟨y3, c3⟩ := hS.cell (j := k * 9 + 3) (by omega)
      obtain ⟨y4, c4⟩ := hS.cell (j := k * 9 + 4) (by omega)
      obtain ⟨y5, c5⟩ := hS.cell (j := k * 9 + 5) (by omega)
      obtain ⟨y6, c6⟩ := hS.cell (j := k * 9 + 6) (by omega)
      obtain ⟨y7, c7⟩ := hS.cell (j := k * 9 + 7) (by omega)
      have c8 := hM.out.head hlt
      have f0 := hS.free (k * 9)
      have f1 := hS.free (k * 9 + 1)
      have f2 := hS.free (k * 9 + 2)
      have f3 := hS.free (k * 9 + 3)
      have f4 := hS.free (k * 9 + 4)
      have f5 := hS.free (k * 9 + 5)
      have f6 := hS.free (k * 9 + 6)
      have f7 := hS.free (k * 9 + 7)
      have hs := hS.lt
      have hM2 := ((((((((hM.out.setg k (j := 0) (by omega) (.int .i64 (z))).setg k (j := 1) (by omega) (.int .i64 (z + 1))).setg k (j := 2) (by omega) (.int .i64 (z + 1 + 1))).setg k (j := 3) (by omega) (.int .i64 (z + 1 + 1 + 1))).setg k (j := 4) (by omega) (.int .i64 (z + 1 + 1 + 1 + 1))).setg k (j := 5) (by omega) (.int .i64 (z + 1 + 1 + 1 + 1 + 1))).setg k (j := 6) (by omega) (.int .i64 (z + 1 + 1 + 1 + 1 + 1 + 1))).setg k (j := 7) (by omega) (.int .i64 (z + 1 + 1 + 1 + 1 + 1 + 1 + 1)))
      have hE2 := ((((((((hE.out.set (b := g) (.inl ⟨hg0, hg1⟩) (k * 9) (.int .i64 (z))).set (b := g) (.inl ⟨hg0, hg1⟩) (k * 9 + 1) (.int .i64 (z + 1))).set (b := g) (.inl ⟨hg0, hg1⟩) (k * 9 + 2) (.int .i64 (z + 1 + 1))).set (b := g) (.inl ⟨hg0, hg1⟩) (k * 9 + 3) (.int .i64 (z + 1 + 1 + 1))).set (b := g) (.inl ⟨hg0, hg1⟩) (k * 9 + 4) (.int .i64 (z + 1 + 1 + 1 + 1))).set (b := g) (.inl ⟨hg0, hg1⟩) (k * 9 + 5) (.int .i64 (z + 1 + 1 + 1 + 1 + 1))).set (b := g) (.inl ⟨hg0, hg1⟩) (k * 9 + 6) (.int .i64 (z + 1 + 1 + 1 + 1 + 1 + 1))).set (b := g) (.inl ⟨hg0, hg1⟩) (k * 9 + 7) (.int .i64 (z + 1 + 1 + 1 + 1 + 1 + 1 + 1)))
      rw [Nat.add_zero] at hM2
      have hM2 := Lib.hid hM2
      have hE2 := Lib.hid hE2
      obtain ⟨d1, d2, d3, d4, d5⟩ := hM2.out.deps k hlt
      have mz := fun k0 => markZ_any _ _ (L k).2.2 k0 _ d5 d4
      obtain ⟨⟨lb, ln, lc⟩, hl⟩ : ∃ x, Hid (L k = x) := ⟨_, Lib.hid rfl⟩
      rw [hl.out] at c8 mz d2 d3 d4
      dsimp only at c8 mz d2 d3 d4
      clear hM hE d5 d1
      go_wp2_with fail
      refine (mz _ (by omega) (by omega)).mono ?_
      rintro e w3 ⟨rfl, hR3, hE3⟩
      have hM3 := Lib.hid (hM2.out.marked hlt hR3 (by rw [hl.out]; exact hE3))
      have hE4 := Lib.hid (hE2.out.trans hE3 (fun b _ e => by subst e; exact ⟨d2, d3⟩))
      clear hM2 hE2 hR3 hE3 mz c0 c1 c2 c3 c4 c5 c6 c7 c8 f0 f1 f2 f3 f4 f5 f6 f7
      go_wp2_with fail
      refine ⟨⟨k + 1, z + 1 + 1 + 1 + 1 + 1 + 1 + 1 + 1 + 2 * ln, by omega, by go_num, by go_num, by omega, by omega, hM3, hE4⟩, ?_⟩
      simp [intOf]; omega
    · obtain rfl : k = n := by omega
      go_wp2_with fail
      go_ret
      exact ⟨z, rfl, hz0, by omega, hE.out⟩
theorem markEs_any (B E g n cap : Nat) (L : Nat → Nat × Nat × Nat) (w : World) (hn : n ≤ 2000000) (h : MkE w B E g n L) :
    Calls Tryz.prog 30 #[.slice (some ⟨g, 0, none⟩) n cap, .int .i64 1] w fun e w' => ∃ z : Int, e = .returned (.int .i64 z) ∧ 0 ≤ z ∧ Exc (fun c => B ≤ c ∧ c < E) w w' := by
  refine (markEs_le B E g n cap L w hn h).mono ?_
  rintro e w' ⟨z, rfl, h0, _, hx⟩
  exact ⟨z, rfl, h0, hx⟩
end Go.Proofs.YtiolhjjkjmepcaaGreatDoor

/- A result's marks: plain facts, and what a mark leaves in memory. -/
namespace Go.Proofs.YtiolhjjkjmepcaaGreatDoor
open Go.RowKit
set_option linter.unusedVariables false

/-- Which mark an entry begins with. -/
def ks (X : Nat → En) (z0 : Int) : Nat → Int
  | 0 => z0
  | k + 1 => ks X z0 k + 8 + 2 * ((X k).deps.length : Int)
theorem ks_range (X : Nat → En) (z0 : Int) : ∀ k, (∀ i, i < k → (X i).deps.length ≤ 12) → z0 ≤ ks X z0 k ∧ ks X z0 k ≤ z0 + 32 * k
  | 0, _ => by simp [ks]
  | k + 1, h => by
    have h1 := ks_range X z0 k (fun i hi => h i (by omega))
    have h2 := h k (Nat.lt_succ_self k)
    simp only [ks]
    omega
/-- An entry that is marked from z on. -/
def MkE1 (z : Int) (x : En) : Prop := x.id = (z, z + 1) ∧ x.bal = z + 1 + 1 ∧ x.st = z + 1 + 1 + 1 ∧ x.k = z + 1 + 1 + 1 + 1 ∧ x.key = z + 1 + 1 + 1 + 1 + 1 ∧ x.v = z + 1 + 1 + 1 + 1 + 1 + 1 ∧ x.seq = z + 1 + 1 + 1 + 1 + 1 + 1 + 1 ∧ MarkedP (z + 1 + 1 + 1 + 1 + 1 + 1 + 1 + 1) x.deps
/-- One entry in place of another. -/
def upX (X : Nat → En) (k : Nat) (x : En) : Nat → En := fun i => if i = k then x else X i
theorem upX_at (X : Nat → En) (k : Nat) (x : En) : upX X k x k = x := if_pos rfl
theorem upX_ne (X : Nat → En) {k i : Nat} (x : En) (h : i ≠ k) : upX X k x i = X i := if_neg h
/-- One number of an entry. -/
def fldX (x : En) (j : Nat) (z : Int) : En :=
  match j with
  | 0 => { x with id := (z, x.id.2) }
  | 1 => { x with id := (x.id.1, z) }
  | 2 => { x with bal := z }
  | 3 => { x with st := z }
  | 4 => { x with k := z }
  | 5 => { x with key := z }
  | 6 => { x with v := z }
  | 7 => { x with seq := z }
  | _ => x
theorem fldX_deps (x : En) (j : Nat) (z : Int) : (fldX x j z).deps = x.deps := by unfold fldX; split <;> rfl
theorem fldX_cells (x : En) (u : Value) {j : Nat} (hj : j < 8) (z : Int) {i : Nat} (hi : i < 9) : (enc9 (fldX x j z) u)[i]? = if i = j then some (.int .i64 z) else (enc9 x u)[i]? := by
  rcases (show j = 0 ∨ j = 1 ∨ j = 2 ∨ j = 3 ∨ j = 4 ∨ j = 5 ∨ j = 6 ∨ j = 7 by omega) with rfl | rfl | rfl | rfl | rfl | rfl | rfl | rfl <;>
  rcases (show i = 0 ∨ i = 1 ∨ i = 2 ∨ i = 3 ∨ i = 4 ∨ i = 5 ∨ i = 6 ∨ i = 7 ∨ i = 8 by omega) with rfl | rfl | rfl | rfl | rfl | rfl | rfl | rfl | rfl <;> rfl
section
variable {w w' : World} {B T g n : Nat} {X : Nat → En} {U : Nat → Value} {P Q : Nat → Nat}
theorem LgAt.set1 (h : LgAt w B T g n X U P Q) {k : Nat} (hk : k < n) {j : Nat} (hj : j < 8) (z : Int) : LgAt (w.setCell ⟨g, k * 9 + j, none⟩ (.int .i64 z)) B T g n (upX X k (fldX (X k) j z)) U P Q := by
  obtain ⟨cur, t, h1, h2, h3⟩ := h.blk
  refine ⟨⟨_, t, heap_setCell_same w g (k * 9 + j) cur t _ h1, by simpa using h2, fun i hi j' hj' => ?_⟩, h.g0, h.g1, by rw [World.size_setCell]; exact h.top, fun i hi => ?_, h.ord⟩
  · rw [Array.getElem?_setIfInBounds]
    by_cases e : i = k
    · subst e
      rw [upX_at, fldX_cells _ _ hj _ hj']
      by_cases e : j' = j
      · subst e
        rw [if_pos rfl, if_pos rfl, if_pos (by omega)]
      · rw [if_neg (by omega), if_neg e]; exact h3 i hi j' hj'
    · rw [upX_ne _ _ e, if_neg (by omega)]; exact h3 i hi j' hj'
  · obtain ⟨a1, a2, a3, a4⟩ := h.deps i hi
    have e : (upX X k (fldX (X k) j z) i).deps = (X i).deps := by
      by_cases e : i = k
      · subst e; rw [upX_at, fldX_deps]
      · rw [upX_ne _ _ e]
    rw [e]
    exact ⟨a1.keep (fun b b1 b2 _ => heap_setCell_other w ⟨g, k * 9 + j, none⟩ b _ (fun e => by subst e; exact a4 b1 b2)), a2, a3, a4⟩
theorem LgAt.congr {X' : Nat → En} (h : LgAt w B T g n X U P Q) (e : ∀ i, X i = X' i) : LgAt w B T g n X' U P Q := by
  have : X = X' := funext e
  rw [← this]; exact h
theorem LgAt.mark8 (h : LgAt w B T g n X U P Q) {k : Nat} (hk : k < n) (z0 z1 z2 z3 z4 z5 z6 z7 : Int) :
    LgAt ((((((((w.setCell ⟨g, k * 9, none⟩ (.int .i64 z0)).setCell ⟨g, k * 9 + 1, none⟩ (.int .i64 z1)).setCell ⟨g, k * 9 + 2, none⟩ (.int .i64 z2)).setCell ⟨g, k * 9 + 3, none⟩ (.int .i64 z3)).setCell ⟨g, k * 9 + 4, none⟩ (.int .i64 z4)).setCell ⟨g, k * 9 + 5, none⟩ (.int .i64 z5)).setCell ⟨g, k * 9 + 6, none⟩ (.int .i64 z6)).setCell ⟨g, k * 9 + 7, none⟩ (.int .i64 z7)) B T g n (upX X k ⟨(z0, z1), z2, z3, z4, z5, z6, z7, (X k).deps⟩) U P Q := by
  have a := (((((((h.set1 hk (j := 0) (by omega) z0).set1 hk (j := 1) (by omega) z1).set1 hk (j := 2) (by omega) z2).set1 hk (j := 3) (by omega) z3).set1 hk (j := 4) (by omega) z4).set1 hk (j := 5) (by omega) z5).set1 hk (j := 6) (by omega) z6).set1 hk (j := 7) (by omega) z7
  rw [Nat.add_zero] at a
  refine a.congr fun i => ?_
  by_cases e : i = k
  · subst e; simp only [upX_at]; rfl
  · simp only [upX_ne _ _ e]
theorem LgAt.markD (h : LgAt w B T g n X U P Q) {k : Nat} (hk : k < n) {M : List Pid} (hM : OwZ w' (P k) (Q k) (U k) M) (he : Exc (fun c => P k ≤ c ∧ c < Q k) w w') : LgAt w' B T g n (upX X k { X k with deps := M }) U P Q := by
  obtain ⟨cur, t, h1, h2, h3⟩ := h.blk
  obtain ⟨_, b2, b3, b4⟩ := h.deps k hk
  refine ⟨⟨cur, t, he.at (fun e => b4 e.1 e.2) h1, h2, fun i hi j hj => ?_⟩, h.g0, h.g1, Nat.le_trans h.top he.size, fun i hi => ?_, h.ord⟩
  · by_cases e : i = k
    · subst e; rw [upX_at]; exact h3 i hi j hj
    · rw [upX_ne _ _ e]; exact h3 i hi j hj
  · obtain ⟨a1, a2, a3, a4⟩ := h.deps i hi
    by_cases e : i = k
    · subst e; rw [upX_at]; exact ⟨hM, a2, a3, a4⟩
    · rw [upX_ne _ _ e]
      refine ⟨a1.apart he (fun b c1 c2 => fun c => ?_), a2, a3, a4⟩
      rcases Nat.lt_or_gt_of_ne e with hl | hl
      · have := h.ord i k hl hk; omega
      · have := h.ord k i hl hi; omega
theorem LgAt.cells (h : LgAt w B T g n X U P Q) {k : Nat} (hk : k < n) :
    (w.cell? ⟨g, k * 9, none⟩ = some (.int .i64 (X k).id.1) ∧ w.cell? ⟨g, k * 9 + 1, none⟩ = some (.int .i64 (X k).id.2) ∧ w.cell? ⟨g, k * 9 + 2, none⟩ = some (.int .i64 (X k).bal) ∧ w.cell? ⟨g, k * 9 + 3, none⟩ = some (.int .i64 (X k).st) ∧ w.cell? ⟨g, k * 9 + 4, none⟩ = some (.int .i64 (X k).k) ∧ w.cell? ⟨g, k * 9 + 5, none⟩ = some (.int .i64 (X k).key) ∧ w.cell? ⟨g, k * 9 + 6, none⟩ = some (.int .i64 (X k).v) ∧ w.cell? ⟨g, k * 9 + 7, none⟩ = some (.int .i64 (X k).seq) ∧ w.cell? ⟨g, k * 9 + 8, none⟩ = some (U k)) ∧ ∀ m, w.frozen? ⟨g, m, none⟩ = false := by
  obtain ⟨cur, t, h1, h2, h3⟩ := h.blk
  have c := h3 k hk
  refine ⟨⟨?_, ?_, ?_, ?_, ?_, ?_, ?_, ?_, ?_⟩, fun m => by simp [World.frozen?, h1]⟩ <;> rw [cell_of_cells h1]
  · exact c 0 (by omega)
  · exact c 1 (by omega)
  · exact c 2 (by omega)
  · exact c 3 (by omega)
  · exact c 4 (by omega)
  · exact c 5 (by omega)
  · exact c 6 (by omega)
  · exact c 7 (by omega)
  · exact c 8 (by omega)
theorem LgAt.lt (h : LgAt w B T g n X U P Q) : g < w.heap.size := Nat.lt_of_lt_of_le h.g1 h.top
end
/-- A result that is marked from z0 on. -/
def LgM (w : World) (B T : Nat) (v : Value) (N : List En) (z0 : Int) : Prop := ∃ g cap U P Q X, v = .slice (some ⟨g, 0, none⟩) N.length cap ∧ N.length ≤ cap ∧ LgAt w B T g N.length X U P Q ∧
  ∀ j, j < N.length → (X j).deps.length = (N.getD j en0).deps.length ∧ MkE1 (ks (fun i => N.getD i en0) z0 j) (X j)
theorem LgM.apart {w w' : World} {B T : Nat} {v : Value} {N : List En} {z0 : Int} {D : Nat → Prop} (h : LgM w B T v N z0) (he : Exc D w w') (hn : ∀ b, B ≤ b → b < T → ¬ D b) : LgM w' B T v N z0 := by
  obtain ⟨g, cap, U, P, Q, X, h1, h2, h3, h4⟩ := h
  exact ⟨g, cap, U, P, Q, X, h1, h2, h3.apart he hn, h4⟩
theorem LgM.up {w w' : World} {B T : Nat} {v : Value} {N : List En} {z0 : Int} (h : LgM w B T v N z0) (hb : Below w.heap.size w w') : LgM w' B T v N z0 := h.apart (D := fun _ => False) (Exc.of hb) (fun _ _ _ h => h)
/-- The mark behind a result. -/
def kN (N : List En) (z0 : Int) : Int := ks (fun i => N.getD i en0) z0 N.length
end Go.Proofs.YtiolhjjkjmepcaaGreatDoor

/- A list of ids that a result has: the laws' markEntry. -/
namespace Go.Proofs.YtiolhjjkjmepcaaGreatDoor
open Go.RowKit
set_option linter.unusedVariables false

theorem markI_nil (a : Option Addr) (c : Nat) (k0 : Int) (w : World) :
    Calls Tryz.prog 57 #[.slice a 0 c, .int .i64 k0] w fun e w' => e = .returned (.int .i64 k0) ∧ Below w.heap.size w w' := by
  go_enter Tryz.func57, Tryz.ntmps57
  go_wp2_with fail
  refine wp_loop_rounds 1 ?_
  rw [rounds_succ]
  go_wp2_with fail
  go_ret
  exact ⟨rfl, Below.refl _ _⟩
theorem markI_z (B T : Nat) (u : Value) (C : List Pid) (k0 : Int) (w : World) (h : OwZ w B T u C) (h0 : 0 ≤ k0) (h1 : k0 ≤ 1000000000) :
    Calls Tryz.prog 57 #[u, .int .i64 k0] w fun e w' => e = .returned (.int .i64 (k0 + 2 * C.length)) ∧ ∃ M, M.length = C.length ∧ MarkedP k0 M ∧ OwZ w' B T u M ∧ Exc (fun c => B ≤ c ∧ c < T) w w' := by
  rcases h with ⟨rfl, a, c, rfl⟩ | ⟨b, hb, ht, h⟩
  · refine (markI_nil a c k0 w).mono ?_
    rintro e w' ⟨rfl, B⟩
    exact ⟨by simp, [], rfl, fun j hj => absurd hj (by simp), .inl ⟨rfl, a, c, rfl⟩, Exc.of B⟩
  · refine (markP_any b u C k0 w h h0 h1).mono ?_
    rintro e w' ⟨rfl, M, hM, hk, hO, K⟩
    exact ⟨rfl, M, hM, hk, .inr ⟨b, hb, ht, hO⟩, ⟨K.os, K.tape, K.output, K.size, fun c hc hn => K.block c hc (fun e => hn (by subst e; exact ⟨hb, ht⟩))⟩⟩

set_option maxRecDepth 100000 in
set_option maxHeartbeats 2000000 in
/-- MARKS IN AN ENTRY. -/
theorem markE_z (B T : Nat) (x : En) (u : Value) (C : List Pid) (k0 : Int) (w : World) (h : OwZ w B T u C) (h0 : 0 ≤ k0) (h1 : k0 ≤ 1000000000) :
    Calls Tryz.prog 31 #[env x u, .int .i64 k0] w fun e w' => e = .returned (.int .i64 (k0 + 2 * C.length)) ∧ ∃ M, M.length = C.length ∧ MarkedP k0 M ∧ OwZ w' B T u M ∧ Exc (fun c => B ≤ c ∧ c < T) w w' := by
  have sc := fun W (hb : Below w.heap.size w W) => markI_z B T u C k0 W (h.up hb) h0 h1
  obtain ⟨ua, un, uc, rfl⟩ : ∃ ua un uc, u = .slice ua un uc := by obtain ⟨a, c, e, _⟩ := h.read; exact ⟨a, _, c, e⟩
  unfold env
  have B0 := Lib.hid ((Below.refl w.heap.size w).alloc (Nat.le_refl _) (.cells #[.int .i64 x.id.1, .int .i64 x.id.2, .int .i64 x.bal, .int .i64 x.st, .int .i64 x.k, .int .i64 x.key, .int .i64 x.v, .int .i64 x.seq, .slice ua un uc] 30))
  clear h
  go_enter Tryz.func31, Tryz.ntmps31
  go_wp2_with fail
  refine (sc _ B0.out).mono ?_
  rintro e w1 ⟨rfl, M, hM, hk, hO, X⟩
  have R := Lib.hid (show ∃ M, M.length = C.length ∧ MarkedP k0 M ∧ OwZ w1 B T (.slice ua un uc) M ∧ Exc (fun c => B ≤ c ∧ c < T) w w1 from ⟨M, hM, hk, hO, (Exc.of B0.out).trans X (fun _ _ h => h)⟩)
  clear X hO hk hM sc B0
  go_wp2_with fail
  go_ret
  exact ⟨rfl, R.out⟩
end Go.Proofs.YtiolhjjkjmepcaaGreatDoor

/- The laws' markEntryS and heldEntryS at a result. -/
namespace Go.Proofs.YtiolhjjkjmepcaaGreatDoor
open Go.RowKit
set_option linter.unusedVariables false

set_option maxRecDepth 100000 in
set_option maxHeartbeats 4000000 in
/-- MARKS IN A RESULT. -/
theorem markL_any (B T : Nat) (v : Value) (N : List En) (z0 : Int) (w : World) (h : LogO w B T v N) (hn : N.length ≤ 12) (hd : ∀ i, i < N.length → (N.getD i en0).deps.length ≤ 12) (hz0 : 0 ≤ z0) (hz1 : z0 ≤ 1000) :
    Calls Tryz.prog 30 #[v, .int .i64 z0] w fun e w' => e = .returned (.int .i64 (kN N z0)) ∧ LgM w' B T v N z0 ∧ Exc (fun c => B ≤ c ∧ c < T) w w' := by
  obtain ⟨g, cap, U, P, Q, rfl, hc, _, hA⟩ := h
  have hU : ∀ i, i < N.length → ∃ ua un uc, U i = .slice ua un uc := fun i hi => by obtain ⟨a, c, e, _⟩ := (hA.deps i hi).1.read; exact ⟨a, _, c, e⟩
  have hU := Lib.hid hU
  have hc := Lib.hid hc
  have hg0 := hA.g0
  have hg1 := hA.g1
  have hA := Lib.hid hA
  have hdd := Lib.hid hd
  have hdl := Lib.hid (fun k (hk : k ≤ N.length) => ks_range (fun i => N.getD i en0) z0 k (fun i hi => hdd.out i (by omega)))
  clear hd
  unfold LgM kN
  obtain ⟨n, hnn⟩ : ∃ n, Hid (N.length = n) := ⟨_, Lib.hid rfl⟩
  obtain ⟨X, hX⟩ : ∃ X : Nat → En, Hid (X = fun i => N.getD i en0) := ⟨_, Lib.hid rfl⟩
  have hX2 : Hid (∀ i, (N.getD i en0).deps.length = (X i).deps.length) := Lib.hid fun i => by rw [hX.out]
  rw [← hX.out, hnn.out] at hA hdl
  rw [hnn.out] at hn hdd hU hc ⊢
  rw [← hX.out]
  clear hX
  go_enter Tryz.func30, Tryz.ntmps30
  go_wp2_with fail
  go_loopw [1, 5] (fun q i wr => ∃ (k : Nat) (Y : Nat → En), k ≤ n ∧ i = .int .i64 k ∧ q = .int .i64 (ks X z0 k) ∧ Hid (LgAt wr B T g n Y U P Q) ∧ Hid ((∀ j, (Y j).deps.length = (X j).deps.length) ∧ ∀ j, j < k → MkE1 (ks X z0 j) (Y j)) ∧ Hid (Exc (fun c => B ≤ c ∧ c < T) w wr)) (fun _ i _ => n - (intOf i).toNat)
  case atStart => exact ⟨0, X, Nat.zero_le _, rfl, rfl, hA, Lib.hid ⟨fun _ => rfl, fun j hj => absurd hj (Nat.not_lt_zero _)⟩, Lib.hid (Exc.refl _ _)⟩
  case round =>
    clear hA
    obtain ⟨k, Y, hk, rfl, rfl, hM, hS, hE⟩ := hrel
    have hzr := hdl.out k (by omega)
    have hz9 : Hid (ks X z0 (k + 1) = ks X z0 k + 8 + 2 * ((X k).deps.length : Int)) := Lib.hid rfl
    obtain ⟨z, hz⟩ : ∃ z, Hid (ks X z0 k = z) := ⟨_, Lib.hid rfl⟩
    rw [hz.out] at hzr hz9 ⊢
    by_cases hlt : k < n
    · obtain ⟨⟨c0, c1, c2, c3, c4, c5, c6, c7, c8⟩, hf⟩ := hM.out.cells hlt
      obtain ⟨ua, un, uc, hu⟩ := hU.out k hlt
      rw [hu] at c8
      have f0 := hf (k * 9)
      have f1 := hf (k * 9 + 1)
      have f2 := hf (k * 9 + 2)
      have f3 := hf (k * 9 + 3)
      have f4 := hf (k * 9 + 4)
      have f5 := hf (k * 9 + 5)
      have f6 := hf (k * 9 + 6)
      have f7 := hf (k * 9 + 7)
      clear hf
      have hs := hM.out.lt
      have hM2 := Lib.hid (hM.out.mark8 hlt z (z + 1) (z + 1 + 1) (z + 1 + 1 + 1) (z + 1 + 1 + 1 + 1) (z + 1 + 1 + 1 + 1 + 1) (z + 1 + 1 + 1 + 1 + 1 + 1) (z + 1 + 1 + 1 + 1 + 1 + 1 + 1))
      have hE2 := ((((((((hE.out.set (b := g) (.inl ⟨hg0, hg1⟩) (k * 9) (.int .i64 (z))).set (b := g) (.inl ⟨hg0, hg1⟩) (k * 9 + 1) (.int .i64 (z + 1))).set (b := g) (.inl ⟨hg0, hg1⟩) (k * 9 + 2) (.int .i64 (z + 1 + 1))).set (b := g) (.inl ⟨hg0, hg1⟩) (k * 9 + 3) (.int .i64 (z + 1 + 1 + 1))).set (b := g) (.inl ⟨hg0, hg1⟩) (k * 9 + 4) (.int .i64 (z + 1 + 1 + 1 + 1))).set (b := g) (.inl ⟨hg0, hg1⟩) (k * 9 + 5) (.int .i64 (z + 1 + 1 + 1 + 1 + 1))).set (b := g) (.inl ⟨hg0, hg1⟩) (k * 9 + 6) (.int .i64 (z + 1 + 1 + 1 + 1 + 1 + 1))).set (b := g) (.inl ⟨hg0, hg1⟩) (k * 9 + 7) (.int .i64 (z + 1 + 1 + 1 + 1 + 1 + 1 + 1)))
      have hE2 := Lib.hid hE2
      obtain ⟨d1, d2, d3, d4⟩ := hM2.out.deps k hlt
      rw [upX_at, hu] at d1
      dsimp only at d1
      have mz := fun k0 => markI_z (P k) (Q k) (.slice ua un uc) (Y k).deps k0 _ d1
      have hl9 : Hid ((Y k).deps.length = (X k).deps.length) := Lib.hid (hS.out.1 k)
      have hl12 : (X k).deps.length ≤ 12 := by have := hdd.out k hlt; rw [hX2.out] at this; exact this
      rw [hl9.out] at mz
      have hu := Lib.hid hu
      clear hM hE d1
      obtain ⟨ln, hln⟩ : ∃ m, Hid ((X k).deps.length = m) := ⟨_, Lib.hid rfl⟩
      rw [hln.out] at mz hz9 hl12
      go_wp2_with fail
      refine (mz _ (by omega) (by omega)).mono ?_
      rintro e w3 ⟨rfl, M, hMl, hMk, hO, hE3⟩
      have hM3 := Lib.hid (hM2.out.markD (k := k) hlt (by rw [hu.out]; exact hO) hE3)
      have hE4 := Lib.hid (hE2.out.trans hE3 (fun b _ e => ⟨Nat.le_trans d2 e.1, Nat.lt_of_lt_of_le e.2 d3⟩))
      have hS3 := Lib.hid (show (∀ j, (upX (upX Y k ⟨(z, z + 1), z + 1 + 1, z + 1 + 1 + 1, z + 1 + 1 + 1 + 1, z + 1 + 1 + 1 + 1 + 1, z + 1 + 1 + 1 + 1 + 1 + 1, z + 1 + 1 + 1 + 1 + 1 + 1 + 1, (Y k).deps⟩) k { (upX Y k ⟨(z, z + 1), z + 1 + 1, z + 1 + 1 + 1, z + 1 + 1 + 1 + 1, z + 1 + 1 + 1 + 1 + 1, z + 1 + 1 + 1 + 1 + 1 + 1, z + 1 + 1 + 1 + 1 + 1 + 1 + 1, (Y k).deps⟩ k) with deps := M } j).deps.length = (X j).deps.length) ∧ ∀ j, j < k + 1 → MkE1 (ks X z0 j) (upX (upX Y k ⟨(z, z + 1), z + 1 + 1, z + 1 + 1 + 1, z + 1 + 1 + 1 + 1, z + 1 + 1 + 1 + 1 + 1, z + 1 + 1 + 1 + 1 + 1 + 1, z + 1 + 1 + 1 + 1 + 1 + 1 + 1, (Y k).deps⟩) k { (upX Y k ⟨(z, z + 1), z + 1 + 1, z + 1 + 1 + 1, z + 1 + 1 + 1 + 1, z + 1 + 1 + 1 + 1 + 1, z + 1 + 1 + 1 + 1 + 1 + 1, z + 1 + 1 + 1 + 1 + 1 + 1 + 1, (Y k).deps⟩ k) with deps := M } j) from by
        refine ⟨fun j => ?_, fun j hj => ?_⟩
        · by_cases e : j = k
          · subst e; rw [upX_at]; exact hMl.trans hln.out.symm
          · rw [upX_ne _ _ e, upX_ne _ _ e]; exact hS.out.1 j
        · by_cases e : j = k
          · subst e; rw [upX_at, upX_at, hz.out]; exact ⟨rfl, rfl, rfl, rfl, rfl, rfl, rfl, hMk⟩
          · rw [upX_ne _ _ e, upX_ne _ _ e]; exact hS.out.2 j (by omega))
      clear hM2 hE2 hE3 mz hO hMk hMl hS c0 c1 c2 c3 c4 c5 c6 c7 c8 f0 f1 f2 f3 f4 f5 f6 f7
      go_wp2_with fail
      go_roundw
      case rel => exact ⟨k + 1, _, by omega, by go_num, by rw [hz9.out]; go_num, hM3, hS3, hE4⟩
      case measure => simp [intOf]; omega
    · obtain rfl : k = n := by omega
      go_wp2_with fail
      go_ret
      exact ⟨by rw [hz.out]; rfl, ⟨g, cap, U, P, Q, Y, rfl, hc.out, hM.out, fun j hj => ⟨by rw [hX2.out]; exact hS.out.1 j, hS.out.2 j hj⟩⟩, hE.out⟩

set_option maxRecDepth 100000 in
set_option maxHeartbeats 4000000 in
/-- THE MARKS OF A RESULT ARE THERE. -/
theorem heldL_any (B T : Nat) (v : Value) (N : List En) (z0 : Int) (w : World) (h : LgM w B T v N z0) (hn : N.length ≤ 12) (hd : ∀ i, i < N.length → (N.getD i en0).deps.length ≤ 12) (hz0 : 0 ≤ z0) (hz1 : z0 ≤ 1000) :
    Calls Tryz.prog 32 #[v, .int .i64 z0] w fun e w' => e = .returned (.int .i64 (kN N z0)) ∧ Below w.heap.size w w' := by
  obtain ⟨g, cap, U, P, Q, Y, rfl, hc, hA, hS⟩ := h
  have hdl := Lib.hid (fun k (hk : k ≤ N.length) => ks_range (fun i => N.getD i en0) z0 k (fun i hi => hd i (by omega)))
  have hU := Lib.hid (fun i (hi : i < N.length) => show ∃ ua un uc, U i = .slice ua un uc from by obtain ⟨a, c, e, _⟩ := (hA.deps i hi).1.read; exact ⟨a, _, c, e⟩)
  have hA := Lib.hid hA
  have hS := Lib.hid hS
  have hdd := Lib.hid hd
  clear hd hc
  unfold kN
  obtain ⟨n, hnn⟩ : ∃ n, Hid (N.length = n) := ⟨_, Lib.hid rfl⟩
  obtain ⟨X, hX⟩ : ∃ X : Nat → En, Hid (X = fun i => N.getD i en0) := ⟨_, Lib.hid rfl⟩
  have hX2 : Hid (∀ i, (N.getD i en0).deps.length = (X i).deps.length) := Lib.hid fun i => by rw [hX.out]
  rw [← hX.out, hnn.out] at hdl hS
  rw [hnn.out] at hn hdd hU hA ⊢
  rw [← hX.out]
  clear hX
  go_enter Tryz.func32, Tryz.ntmps32
  go_wp2_with fail
  go_loopw [1, 5] (fun q i wr => ∃ (k : Nat), k ≤ n ∧ i = .int .i64 k ∧ q = .int .i64 (ks X z0 k) ∧ Hid (Below w.heap.size w wr)) (fun _ i _ => n - (intOf i).toNat)
  case atStart => exact ⟨0, Nat.zero_le _, rfl, rfl, Lib.hid (Below.refl _ _)⟩
  case round =>
    obtain ⟨k, hk, rfl, rfl, hB⟩ := hrel
    have hzr := hdl.out k (by omega)
    have hz9 : Hid (ks X z0 (k + 1) = ks X z0 k + 8 + 2 * ((X k).deps.length : Int)) := Lib.hid rfl
    obtain ⟨z, hz⟩ : ∃ z, Hid (ks X z0 k = z) := ⟨_, Lib.hid rfl⟩
    by_cases hlt : k < n
    · have hAk := hA.out.apart (D := fun c => w.heap.size ≤ c) (w' := wr) ⟨hB.out.os, hB.out.tape, hB.out.output, hB.out.size, fun b hb _ => hB.out.block b hb⟩ (fun b _ hb hh => by have := hA.out.top; omega)
      obtain ⟨⟨c0, c1, c2, c3, c4, c5, c6, c7, c8⟩, hf⟩ := hAk.cells hlt
      obtain ⟨ua, un, uc, hu⟩ := hU.out k hlt
      obtain ⟨hlk, m0, m1, m2, m3, m4, m5, m6, m7⟩ := hS.out k hlt
      rw [hz.out] at hzr hz9 m0 m1 m2 m3 m4 m5 m6 m7 ⊢
      rw [hu] at c8
      rw [m0] at c0 c1
      rw [m1] at c2
      rw [m2] at c3
      rw [m3] at c4
      rw [m4] at c5
      rw [m5] at c6
      rw [m6] at c7
      dsimp only at c0 c1
      have hs := hAk.lt
      have hl12 : (X k).deps.length ≤ 12 := by have := hdd.out k hlt; rw [hX2.out] at this; exact this
      have hI := (hAk.deps k hlt).1.read
      rw [hu] at hI
      have hp := fun W (hb : Below wr.heap.size wr W) => heldP_any (.slice ua un uc) (z + 1 + 1 + 1 + 1 + 1 + 1 + 1 + 1) (Y k).deps W m7 (hI.up hb (Nat.le_refl _)) (by omega) (by omega)
      rw [hX2.out] at hlk
      rw [hlk] at hp
      obtain ⟨ln, hln⟩ : ∃ m, Hid ((X k).deps.length = m) := ⟨_, Lib.hid rfl⟩
      rw [hln.out] at hp hz9 hl12
      clear hlk m0 m1 m2 m3 m4 m5 m6 m7 hf hAk hI hu
      go_wp2_with fail
      refine (hp _ (Below.refl _ _)).mono ?_
      rintro e w3 ⟨rfl, B3⟩
      have hB3 := Lib.hid (bstep hB.out B3)
      clear B3 hp hB c0 c1 c2 c3 c4 c5 c6 c7 c8
      go_wp2_with fail
      go_roundw
      case rel => exact ⟨k + 1, by omega, by go_num, by rw [hz9.out]; go_num, hB3⟩
      case measure => simp [intOf]; omega
    · obtain rfl : k = n := by omega
      go_wp2_with fail
      go_ret
      exact ⟨rfl, hB.out⟩
end Go.Proofs.YtiolhjjkjmepcaaGreatDoor

/- The laws' size of an entry. -/
namespace Go.Proofs.YtiolhjjkjmepcaaGreatDoor
open Go.RowKit
set_option linter.unusedVariables false

set_option maxRecDepth 100000 in
theorem szE_any (p r bal st k key v s : Int) (ua : Option Addr) (un uc : Nat) (z : Int) (w : World) (hk : 0 ≤ z) (hk2 : z ≤ 1048576) (h : un ≤ 9223372036854775807) :
    Calls Tryz.prog 25 #[.agg #[.int .i64 p, .int .i64 r, .int .i64 bal, .int .i64 st, .int .i64 k, .int .i64 key, .int .i64 v, .int .i64 s, .slice ua un uc], .int .i64 z] w fun e w' => e = .returned (.int .i64 (if z < un then -1 else z - un)) ∧ Below w.heap.size w w' := by
  have sz := fun w => szP_gen ua un uc z w hk hk2 h
  by_cases hl : z < un
  · rw [if_pos hl] at sz ⊢
    go_enter Tryz.func25, Tryz.ntmps25
    go_wp2_with fail
    refine (sz _).mono ?_
    rintro e w1 ⟨rfl, hb⟩
    have D1 := Lib.hid (((Below.refl w.heap.size w).alloc (Nat.le_refl _) (.cells #[.int .i64 p, .int .i64 r, .int .i64 bal, .int .i64 st, .int .i64 k, .int .i64 key, .int .i64 v, .int .i64 s, .slice ua un uc] 48)).trans (hb.mono (by simp)))
    clear hb sz
    go_wp2_with fail
    go_ret
    exact ⟨rfl, D1.out⟩
  · rw [if_neg hl] at sz ⊢
    obtain ⟨y, hz⟩ : ∃ y, z - (un : Int) = y := ⟨_, rfl⟩
    rw [hz] at sz ⊢
    have hz0 : ¬ y < 0 := by omega
    go_enter Tryz.func25, Tryz.ntmps25
    go_wp2_with fail
    refine (sz _).mono ?_
    rintro e w1 ⟨rfl, hb⟩
    have D1 := Lib.hid (((Below.refl w.heap.size w).alloc (Nat.le_refl _) (.cells #[.int .i64 p, .int .i64 r, .int .i64 bal, .int .i64 st, .int .i64 k, .int .i64 key, .int .i64 v, .int .i64 s, .slice ua un uc] 48)).trans (hb.mono (by simp)))
    clear hb sz
    go_wp2_with fail
    go_ret
    exact ⟨rfl, D1.out⟩
end Go.Proofs.YtiolhjjkjmepcaaGreatDoor

/- The laws' sizes of slices of entries. -/
namespace Go.Proofs.YtiolhjjkjmepcaaGreatDoor
open Go.RowKit
set_option linter.unusedVariables false

/-- An entry that came in: what it depends on may be long. -/
structure LE (w : World) (b o : Nat) (x : En) (ua : Option Addr) (un uc : Nat) : Prop where
  c0 : w.cell? ⟨b, o, none⟩ = some (.int .i64 x.id.1)
  c1 : w.cell? ⟨b, o + 1, none⟩ = some (.int .i64 x.id.2)
  c2 : w.cell? ⟨b, o + 2, none⟩ = some (.int .i64 x.bal)
  c3 : w.cell? ⟨b, o + 3, none⟩ = some (.int .i64 x.st)
  c4 : w.cell? ⟨b, o + 4, none⟩ = some (.int .i64 x.k)
  c5 : w.cell? ⟨b, o + 5, none⟩ = some (.int .i64 x.key)
  c6 : w.cell? ⟨b, o + 6, none⟩ = some (.int .i64 x.v)
  c7 : w.cell? ⟨b, o + 7, none⟩ = some (.int .i64 x.seq)
  c8 : w.cell? ⟨b, o + 8, none⟩ = some (.slice ua un uc)
  len : un ≤ maxLen
  ids : 1048576 < un ∨ ∃ C, Ids w (.slice ua un uc) C
/-- Entries that came in. -/
def LEs (w : World) (a : Option Addr) (len cap : Nat) : Prop := len ≤ maxLen ∧ len ≤ cap ∧ (len = 0 ∨ ∃ b off, a = some ⟨b, off, none⟩ ∧ b < w.heap.size ∧ ∀ i, i < len → ∃ x ua un uc, LE w b (off + i * 9) x ua un uc)

set_option maxRecDepth 100000 in
set_option maxHeartbeats 4000000 in
theorem szEs_at (b off ca n : Nat) (w : World) (hb : b < w.heap.size) (hm : n ≤ 9223372036854775807) (h : ∀ i, i < n → ∃ x ua un uc, LE w b (off + i * 9) x ua un uc) :
    Calls Tryz.prog 24 #[.slice (some ⟨b, off, none⟩) n ca, .int .i64 1048576] w fun e w' => (∃ z : Int, e = .returned (.int .i64 z) ∧ (z = -1 ∨ 0 ≤ z ∧ n ≤ 1048576 ∧ ∀ i, i < n → ∃ x u, EnAt w b (off + i * 9) x u)) ∧ Below w.heap.size w w' := by
  have h := Lib.hid h
  by_cases hl : 1048576 < n
  · go_enter Tryz.func24, Tryz.ntmps24
    go_wp2_with fail
    go_ret
    exact ⟨⟨_, rfl, .inl rfl⟩, Below.refl _ _⟩
  · go_enter Tryz.func24, Tryz.ntmps24
    go_wp2_with fail
    go_loopw [1, 5] (fun q i wr => ∃ (k : Nat) (l : Int), k ≤ n ∧ i = .int .i64 k ∧ q = .int .i64 l ∧ 0 ≤ l ∧ l ≤ 1048576 ∧ Hid (∀ i, i < k → ∃ x u, EnAt w b (off + i * 9) x u) ∧ Hid (Below w.heap.size w wr)) (fun _ i _ => n - (intOf i).toNat)
    case atStart => exact ⟨0, 1048576 - n, Nat.zero_le _, rfl, rfl, by omega, by omega, Lib.hid (fun i hi => absurd hi (Nat.not_lt_zero _)), Lib.hid (Below.refl _ _)⟩
    case round =>
      obtain ⟨k, l, hk, rfl, rfl, hl0, hl1, hd, hnx⟩ := hrel
      by_cases hlt : k < n
      · obtain ⟨x, ua, un, uc, hE⟩ := h.out k hlt
        have hcc : ∀ o, wr.cell? ⟨b, o, none⟩ = w.cell? ⟨b, o, none⟩ := fun o => hnx.out.cell (p := ⟨b, o, none⟩) hb
        have q0 := (hcc _).trans hE.c0
        have q1 := (hcc _).trans hE.c1
        have q2 := (hcc _).trans hE.c2
        have q3 := (hcc _).trans hE.c3
        have q4 := (hcc _).trans hE.c4
        have q5 := (hcc _).trans hE.c5
        have q6 := (hcc _).trans hE.c6
        have q7 := (hcc _).trans hE.c7
        have q8 := (hcc _).trans hE.c8
        have hun := hE.len
        have hbl := Nat.lt_of_lt_of_le hb hnx.out.size
        have hE := Lib.hid hE
        have sz := fun w => szE_any x.id.1 x.id.2 x.bal x.st x.k x.key x.v x.seq ua un uc l w hl0 hl1 (by simpa [maxLen] using hun)
        clear hcc
        by_cases hlu : l < un
        · rw [if_pos hlu] at sz
          clear hd h hE
          go_wp2_with fail
          refine (sz _).mono ?_
          rintro e w1 ⟨rfl, B⟩
          have D := Lib.hid (bstep hnx.out B)
          clear B sz q0 q1 q2 q3 q4 q5 q6 q7 q8
          go_wp2_with fail
          go_ret
          exact ⟨⟨_, rfl, .inl rfl⟩, D.out⟩
        · rw [if_neg hlu] at sz
          obtain ⟨y, hy⟩ : ∃ y, l - (un : Int) = y := ⟨_, rfl⟩
          have hy0 : ¬ y < 0 := by omega
          have hy1 : y ≤ 1048576 := by omega
          rw [hy] at sz
          have hd1 := Lib.hid (up_to hd.out (show ∃ x u, EnAt w b (off + k * 9) x u from by
            obtain ⟨C, hC⟩ := hE.out.ids.resolve_left (by omega)
            have g := hE.out
            exact ⟨{ x with deps := C }, .slice ua un uc, g.c0, g.c1, g.c2, g.c3, g.c4, g.c5, g.c6, g.c7, g.c8, hC⟩))
          clear hd hE hy hlu
          go_wp2_with fail
          refine (sz _).mono ?_
          rintro e w1 ⟨rfl, B⟩
          have D := Lib.hid (bstep hnx.out B)
          clear B sz q0 q1 q2 q3 q4 q5 q6 q7 q8
          go_wp2_with fail
          refine ⟨⟨k + 1, y, by omega, by go_num, rfl, by omega, hy1, hd1, D⟩, ?_⟩
          simp [intOf]; omega
      · obtain rfl : k = n := by omega
        go_wp2_with fail
        go_ret
        exact ⟨⟨_, rfl, .inr ⟨hl0, by omega, hd.out⟩⟩, hnx.out⟩

theorem szEs_nil (a : Option Addr) (ca : Nat) (w : World) :
    Calls Tryz.prog 24 #[.slice a 0 ca, .int .i64 1048576] w fun e w' => e = .returned (.int .i64 1048576) ∧ Below w.heap.size w w' := by
  go_enter Tryz.func24, Tryz.ntmps24
  go_wp2_with fail
  refine wp_loop_rounds 1 ?_
  rw [rounds_succ]
  go_wp2_with fail
  go_ret
  exact ⟨rfl, Below.refl _ _⟩

theorem ens_of {w : World} {b off n cap : Nat} (hb : b < w.heap.size) (hc : n ≤ cap) (hl : n ≤ 2000000) (h : ∀ i, i < n → ∃ x u, EnAt w b (off + i * 9) x u) : ∃ E : List En, E.length = n ∧ Ens w (.slice (some ⟨b, off, none⟩) n cap) E := by
  have h' : ∀ i, ∃ xu : En × Value, i < n → EnAt w b (off + i * 9) xu.1 xu.2 := fun i => by
    by_cases hi : i < n
    · obtain ⟨x, u, he⟩ := h i hi; exact ⟨(x, u), fun _ => he⟩
    · exact ⟨(en0, .slice none 0 0), fun hh => absurd hh hi⟩
  let f := fun i => Classical.choose (h' i)
  have hf : ∀ i, i < n → EnAt w b (off + i * 9) (f i).1 (f i).2 := fun i hi => Classical.choose_spec (h' i) hi
  have hlen : ((List.range n).map fun i => (f i).1).length = n := by simp
  refine ⟨(List.range n).map fun i => (f i).1, hlen, some ⟨b, off, none⟩, cap, by rw [hlen], by rw [hlen]; exact hc, by rw [hlen]; exact hl, .inr ⟨b, off, fun i => (f i).2, rfl, hb, fun i hi => ?_⟩⟩
  rw [hlen] at hi
  have e : ((List.range n).map fun i => (f i).1).getD i en0 = (f i).1 := by
    rw [List.getD_eq_getElem?_getD, List.getElem?_map, List.getElem?_range hi]; rfl
  rw [e]
  exact hf i hi

/-- WHAT szEntryS ANSWERS: where it is not below 0, the entries can be read. -/
theorem szEs_any (a : Option Addr) (len cap : Nat) (w : World) (h : LEs w a len cap) :
    Calls Tryz.prog 24 #[.slice a len cap, .int .i64 1048576] w fun e w' => (∃ z : Int, e = .returned (.int .i64 z) ∧ (z = -1 ∨ 0 ≤ z ∧ ∃ E : List En, E.length = len ∧ Ens w (.slice a len cap) E)) ∧ Below w.heap.size w w' := by
  obtain ⟨h1, h2, h3⟩ := h
  rcases h3 with rfl | ⟨b, off, rfl, hb, hc⟩
  · refine (szEs_nil a cap w).mono ?_
    rintro e w' ⟨rfl, B⟩
    exact ⟨⟨_, rfl, .inr ⟨by omega, [], rfl, a, cap, rfl, Nat.zero_le _, Nat.zero_le _, .inl rfl⟩⟩, B⟩
  · refine (szEs_at b off cap len w hb (by simpa [maxLen] using h1) hc).mono ?_
    rintro e w' ⟨⟨z, rfl, hz⟩, B⟩
    refine ⟨⟨z, rfl, ?_⟩, B⟩
    rcases hz with hz | ⟨hz, hl, hE⟩
    · exact .inl hz
    · exact .inr ⟨hz, ens_of hb h2 (by omega) hE⟩
end Go.Proofs.YtiolhjjkjmepcaaGreatDoor

/- The laws' sizes of slices of entries, with their bound. -/
namespace Go.Proofs.YtiolhjjkjmepcaaGreatDoor
open Go.RowKit
set_option linter.unusedVariables false

set_option maxRecDepth 100000 in
set_option maxHeartbeats 4000000 in
theorem szEb_at (b off ca n : Nat) (w : World) (hb : b < w.heap.size) (hm : n ≤ 9223372036854775807) (h : ∀ i, i < n → ∃ x ua un uc, LE w b (off + i * 9) x ua un uc) :
    Calls Tryz.prog 24 #[.slice (some ⟨b, off, none⟩) n ca, .int .i64 1048576] w fun e w' => (∃ z : Int, e = .returned (.int .i64 z) ∧ (z = -1 ∨ 0 ≤ z ∧ z ≤ 1048576 ∧ n ≤ 1048576 ∧ ∀ i, i < n → ∃ x u, EnAt w b (off + i * 9) x u)) ∧ Below w.heap.size w w' := by
  have h := Lib.hid h
  by_cases hl : 1048576 < n
  · go_enter Tryz.func24, Tryz.ntmps24
    go_wp2_with fail
    go_ret
    exact ⟨⟨_, rfl, .inl rfl⟩, Below.refl _ _⟩
  · go_enter Tryz.func24, Tryz.ntmps24
    go_wp2_with fail
    go_loopw [1, 5] (fun q i wr => ∃ (k : Nat) (l : Int), k ≤ n ∧ i = .int .i64 k ∧ q = .int .i64 l ∧ 0 ≤ l ∧ l ≤ 1048576 ∧ Hid (∀ i, i < k → ∃ x u, EnAt w b (off + i * 9) x u) ∧ Hid (Below w.heap.size w wr)) (fun _ i _ => n - (intOf i).toNat)
    case atStart => exact ⟨0, 1048576 - n, Nat.zero_le _, rfl, rfl, by omega, by omega, Lib.hid (fun i hi => absurd hi (Nat.not_lt_zero _)), Lib.hid (Below.refl _ _)⟩
    case round =>
      obtain ⟨k, l, hk, rfl, rfl, hl0, hl1, hd, hnx⟩ := hrel
      by_cases hlt : k < n
      · obtain ⟨x, ua, un, uc, hE⟩ := h.out k hlt
        have hcc : ∀ o, wr.cell? ⟨b, o, none⟩ = w.cell? ⟨b, o, none⟩ := fun o => hnx.out.cell (p := ⟨b, o, none⟩) hb
        have q0 := (hcc _).trans hE.c0
        have q1 := (hcc _).trans hE.c1
        have q2 := (hcc _).trans hE.c2
        have q3 := (hcc _).trans hE.c3
        have q4 := (hcc _).trans hE.c4
        have q5 := (hcc _).trans hE.c5
        have q6 := (hcc _).trans hE.c6
        have q7 := (hcc _).trans hE.c7
        have q8 := (hcc _).trans hE.c8
        have hun := hE.len
        have hbl := Nat.lt_of_lt_of_le hb hnx.out.size
        have hE := Lib.hid hE
        have sz := fun w => szE_any x.id.1 x.id.2 x.bal x.st x.k x.key x.v x.seq ua un uc l w hl0 hl1 (by simpa [maxLen] using hun)
        clear hcc
        by_cases hlu : l < un
        · rw [if_pos hlu] at sz
          clear hd h hE
          go_wp2_with fail
          refine (sz _).mono ?_
          rintro e w1 ⟨rfl, B⟩
          have D := Lib.hid (bstep hnx.out B)
          clear B sz q0 q1 q2 q3 q4 q5 q6 q7 q8
          go_wp2_with fail
          go_ret
          exact ⟨⟨_, rfl, .inl rfl⟩, D.out⟩
        · rw [if_neg hlu] at sz
          obtain ⟨y, hy⟩ : ∃ y, l - (un : Int) = y := ⟨_, rfl⟩
          have hy0 : ¬ y < 0 := by omega
          have hy1 : y ≤ 1048576 := by omega
          rw [hy] at sz
          have hd1 := Lib.hid (up_to hd.out (show ∃ x u, EnAt w b (off + k * 9) x u from by
            obtain ⟨C, hC⟩ := hE.out.ids.resolve_left (by omega)
            have g := hE.out
            exact ⟨{ x with deps := C }, .slice ua un uc, g.c0, g.c1, g.c2, g.c3, g.c4, g.c5, g.c6, g.c7, g.c8, hC⟩))
          clear hd hE hy hlu
          go_wp2_with fail
          refine (sz _).mono ?_
          rintro e w1 ⟨rfl, B⟩
          have D := Lib.hid (bstep hnx.out B)
          clear B sz q0 q1 q2 q3 q4 q5 q6 q7 q8
          go_wp2_with fail
          refine ⟨⟨k + 1, y, by omega, by go_num, rfl, by omega, hy1, hd1, D⟩, ?_⟩
          simp [intOf]; omega
      · obtain rfl : k = n := by omega
        go_wp2_with fail
        go_ret
        exact ⟨⟨_, rfl, .inr ⟨hl0, hl1, by omega, hd.out⟩⟩, hnx.out⟩

/-- WHAT szEntryS ANSWERS: where it is not below 0, the entries can be read. -/
theorem szEb_any (a : Option Addr) (len cap : Nat) (w : World) (h : LEs w a len cap) :
    Calls Tryz.prog 24 #[.slice a len cap, .int .i64 1048576] w fun e w' => (∃ z : Int, e = .returned (.int .i64 z) ∧ (z = -1 ∨ 0 ≤ z ∧ z ≤ 1048576 ∧ ∃ E : List En, E.length = len ∧ Ens w (.slice a len cap) E)) ∧ Below w.heap.size w w' := by
  obtain ⟨h1, h2, h3⟩ := h
  rcases h3 with rfl | ⟨b, off, rfl, hb, hc⟩
  · refine (szEs_nil a cap w).mono ?_
    rintro e w' ⟨rfl, B⟩
    exact ⟨⟨_, rfl, .inr ⟨by omega, by omega, [], rfl, a, cap, rfl, Nat.zero_le _, Nat.zero_le _, .inl rfl⟩⟩, B⟩
  · refine (szEb_at b off cap len w hb (by simpa [maxLen] using h1) hc).mono ?_
    rintro e w' ⟨⟨z, rfl, hz⟩, B⟩
    refine ⟨⟨z, rfl, ?_⟩, B⟩
    rcases hz with hz | ⟨hz, hz2, hl, hE⟩
    · exact .inl hz
    · exact .inr ⟨hz, hz2, ens_of hb h2 (by omega) hE⟩
end Go.Proofs.YtiolhjjkjmepcaaGreatDoor

/- The laws' markEntry at a block with room: all else stays. -/
namespace Go.Proofs.YtiolhjjkjmepcaaGreatDoor
open Go.RowKit
set_option linter.unusedVariables false

set_option maxRecDepth 100000 in
set_option maxHeartbeats 2000000 in
theorem markEb_any (x : En) (b n cap : Nat) (k0 : Int) (w : World) (h : Sz w b (2 * n)) (hn : n ≤ 2000000) (h0 : 0 ≤ k0) (h1 : k0 ≤ 100000000000000) :
    Calls Tryz.prog 31 #[env x (.slice (some ⟨b, 0, none⟩) n cap), .int .i64 k0] w fun e w' => e = .returned (.int .i64 (k0 + 2 * n)) ∧ Exc (fun c => c = b) w w' := by
  have sc := fun W (h : Sz W b (2 * n)) => markZ_any b n cap k0 W h hn h0 (by omega)
  have B0 := Lib.hid ((Below.refl w.heap.size w).alloc (Nat.le_refl _) (.cells #[.int .i64 x.id.1, .int .i64 x.id.2, .int .i64 x.bal, .int .i64 x.st, .int .i64 x.k, .int .i64 x.key, .int .i64 x.v, .int .i64 x.seq, .slice (some ⟨b, 0, none⟩) n cap] 30))
  have S0 := Lib.hid (show Sz (w.alloc (.cells #[.int .i64 x.id.1, .int .i64 x.id.2, .int .i64 x.bal, .int .i64 x.st, .int .i64 x.k, .int .i64 x.key, .int .i64 x.v, .int .i64 x.seq, .slice (some ⟨b, 0, none⟩) n cap] 30)) b (2 * n) from by
    obtain ⟨cur, t, h1, h2⟩ := h
    exact ⟨cur, t, (B0.out.block b (lt_of_heap h1)).trans h1, h2⟩)
  clear h
  unfold env
  go_enter Tryz.func31, Tryz.ntmps31
  go_wp2_with fail
  refine (sc _ S0.out).mono ?_
  rintro e w1 ⟨rfl, _, X⟩
  have R := Lib.hid ((Exc.of (P := fun c => c = b) B0.out).trans X (fun _ _ h => h))
  clear X sc B0 S0
  go_wp2_with fail
  go_ret
  exact ⟨rfl, R.out⟩
end Go.Proofs.YtiolhjjkjmepcaaGreatDoor

/- What the frames of laws over slices of entries use. -/
namespace Go.Proofs.YtiolhjjkjmepcaaGreatDoor
open Go.ChangeShapes Go.WideShapes Go.ChangeAt Go.RowKit Go.Joins Go.Deep
set_option linter.unusedVariables false

theorem les_of_fn {w : World} {x : Addr} {len cap : Nat} (hl : len ≤ cap) (hm : cap ≤ maxLen)
    (h : ∀ i, i < len → ∃ (e : En) (ua : Option Addr) (un uc : Nat), (∀ j u, [Value.int .i64 e.id.1, .int .i64 e.id.2, .int .i64 e.bal, .int .i64 e.st, .int .i64 e.k, .int .i64 e.key, .int .i64 e.v, .int .i64 e.seq, .slice ua un uc][j]? = some u → w.cell? (x.add (i * 9 + j)) = some u) ∧ IdsIn w ua un uc) :
    LEs w (some x) len cap := by
  refine ⟨Nat.le_trans hl hm, hl, ?_⟩
  by_cases h0 : len = 0
  · exact .inl h0
  · obtain ⟨b, off, spot⟩ := x
    obtain ⟨e, ua, un, uc, hc, _⟩ := h 0 (by omega)
    have hc0 := hc 0 _ rfl
    have hspot : spot = none := by simpa [Addr.add] using World.cell?_spot hc0
    subst hspot
    have ea : ∀ j, (⟨b, off, none⟩ : Addr).add j = ⟨b, off + j, none⟩ := fun j => by unfold Addr.add; split <;> simp_all
    refine .inr ⟨b, off, rfl, ?_, fun i hi => ?_⟩
    · have := World.block_lt_of_cell? w _ hc0
      simpa [Addr.add] using this
    · obtain ⟨e, ua, un, uc, hc, hI⟩ := h i hi
      have c := fun j u (hj : [Value.int .i64 e.id.1, .int .i64 e.id.2, .int .i64 e.bal, .int .i64 e.st, .int .i64 e.k, .int .i64 e.key, .int .i64 e.v, .int .i64 e.seq, .slice ua un uc][j]? = some u) => by
        have := hc j u hj
        rw [ea, ← Nat.add_assoc] at this
        exact this
      exact ⟨e, ua, un, uc, c 0 _ rfl, c 1 _ rfl, c 2 _ rfl, c 3 _ rfl, c 4 _ rfl, c 5 _ rfl, c 6 _ rfl, c 7 _ rfl, c 8 _ rfl, hI.1, hI.2⟩

set_option maxRecDepth 100000 in
theorem les_of_trod {H : Type} {enc : TypeId × Value → H} {w : World} {fuel : Nat} {a : Option Addr} {len cap : Nat} {x : DataW H × List MemPlace} (h : DataW.trod enc Tryz.prog w 0 (fun _ => true) true fuel 43 [.slice a len cap] = some x) : LEs w a len cap := by
  rcases open_slice Tryz.underlying43 h with ⟨hcs, _⟩ | ⟨a', len', cap', m, n, D, Pl, hcs, _, hl, hm, hmm, _, hx⟩
  · simp at hcs
    obtain ⟨rfl, rfl, rfl⟩ := hcs
    exact ⟨Nat.zero_le _, Nat.le_refl _, .inl rfl⟩
  · simp at hcs
    obtain ⟨rfl, rfl, rfl⟩ := hcs
    simp at hmm
    subst hmm
    refine les_of_fn hl hm fun i hi => ?_
    obtain ⟨cs', h1, h2⟩ := hx i (by omega)
    rw [cells_lawsEnR] at h1
    obtain ⟨_, hlen, hcell⟩ := World.cells?_some h1
    obtain ⟨p, r, bal, st, k, key, v, s, ua, un, uc, rfl, hI⟩ := en_of_trod hlen h2
    refine ⟨⟨(p, r), bal, st, k, key, v, s, []⟩, ua, un, uc, fun j u hj => ?_, hI⟩
    have hj9 : j < 9 := by
      rcases Nat.lt_or_ge j 9 with hlt | hge
      · exact hlt
      · rw [List.getElem?_eq_none (by simpa using hge)] at hj; cases hj
    have e0 := hcell j (by simpa using hj9)
    rw [add_add] at e0
    rw [e0]
    exact hj
end Go.Proofs.YtiolhjjkjmepcaaGreatDoor
