/- Texts laid together. -/
import Derived.Test.YtbbnchodchgioaaDoorC01
import Derived.Test.YtbbnchodchgioaaDoorC03
import Derived.Test.YtbbnchodchgioaaDoorC06
/- The laws' marks and sizes of slices of ids. -/
namespace Go.Proofs.YtbbnchodchgioaaDoor
open Go.RowKit
set_option linter.unusedVariables false

theorem OwnP.cap_le {w : World} {b : Nat} {v : Value} {C : List Pid} (h : OwnP w b v C) : C.length ≤ 2000000 := by
  obtain ⟨_, _, _, _, _, _, h, _⟩ := h; exact h

/-- Marks from k on, two an id. -/
def MarkedP (k : Int) (M : List Pid) : Prop := ∀ j : Nat, j < M.length → M.getD j nop = (k + 2 * j, k + 2 * j + 1)

theorem markP_up {M : List Pid} {k0 : Int} {k : Nat} (hM : k < M.length) (h : ∀ j : Nat, j < k → M.getD j nop = (k0 + 2 * j, k0 + 2 * j + 1)) : ∀ j : Nat, j < k + 1 → (M.set k (k0 + 2 * k, k0 + 2 * k + 1)).getD j nop = (k0 + 2 * j, k0 + 2 * j + 1) := by
  intro j hj
  by_cases e : j = k
  · subst e; rw [List.getD_eq_getElem?_getD, List.getElem?_set_self hM]; rfl
  · rw [List.getD_eq_getElem?_getD, List.getElem?_set_ne (fun x => e x.symm), ← List.getD_eq_getElem?_getD]; exact h j (by omega)

set_option maxRecDepth 100000 in
set_option maxHeartbeats 2000000 in
theorem markP_any (b : Nat) (u : Value) (C : List Pid) (k0 : Int) (w : World) (h : OwnP w b u C) (h0 : 0 ≤ k0) (h1 : k0 ≤ 1000000000) :
    Calls Tryd.prog 37 #[u, .int .i64 k0] w fun e w' => e = .returned (.int .i64 (k0 + 2 * C.length)) ∧ ∃ M, M.length = C.length ∧ MarkedP k0 M ∧ OwnP w' b u M ∧ Keep w.heap.size b w w' := by
  have hm := h.cap_le
  obtain ⟨cap, rfl, hcap⟩ := h.shape
  obtain ⟨n, hn⟩ : ∃ n, Hid (C.length = n) := ⟨_, Lib.hid rfl⟩
  rw [hn.out] at h hcap hm ⊢
  have h := Lib.hid h
  go_enter Tryd.func37, Tryd.ntmps37
  go_wp2_with fail
  go_loopw [1, 5] (fun q i wr => ∃ k : Nat, k ≤ n ∧ i = .int .i64 k ∧ q = .int .i64 (k0 + 2 * k) ∧ ∃ M : List Pid, Hid (M.length = n ∧ (∀ j : Nat, j < k → M.getD j nop = (k0 + 2 * j, k0 + 2 * j + 1)) ∧ OwnP wr b (.slice (some ⟨b, 0, none⟩) n cap) M) ∧ Hid (Keep w.heap.size b w wr)) (fun _ i _ => n - (intOf i).toNat)
  case atStart => exact ⟨0, Nat.zero_le _, rfl, by simp, C, Lib.hid ⟨hn.out, fun j hj => absurd hj (Nat.not_lt_zero _), h.out⟩, Lib.hid (Keep.refl _ _ _)⟩
  case round =>
    obtain ⟨k, hk, rfl, rfl, M, hM, hnx⟩ := hrel
    clear h
    by_cases hlt : k < n
    · obtain ⟨c0, c1⟩ := hM.out.2.2.cell k (by rw [hM.out.1]; exact hlt)
      have f0 := hM.out.2.2.free (k * 2)
      have f1 := hM.out.2.2.free (k * 2 + 1)
      have hs := hM.out.2.2.lt
      have R := Lib.hid (hM.out.2.2.set k (by rw [hM.out.1]; exact hlt) (k0 + 2 * k, k0 + 2 * k + 1))
      have R2 := Lib.hid (markP_up (by rw [hM.out.1]; exact hlt) hM.out.2.1)
      have hl := Lib.hid hM.out.1
      generalize M.getD k nop = y at c0 c1
      clear hM
      go_wp2_with fail
      go_roundw
      case rel => exact ⟨k + 1, by omega, by go_num, by go_num, M.set k (k0 + 2 * k, k0 + 2 * k + 1), Lib.hid ⟨by rw [List.length_set]; exact hl.out, R2.out, R.out⟩, Lib.hid ((hnx.out.setR _ _).setR _ _)⟩
      case measure => simp [intOf]; omega
    · obtain rfl : k = n := by omega
      go_wp2_with fail
      go_ret
      refine ⟨rfl, M, hM.out.1, ?_, hM.out.2.2, hnx.out⟩
      intro j hj
      exact hM.out.2.1 j (by rw [← hM.out.1]; exact hj)

set_option maxRecDepth 100000 in
set_option maxHeartbeats 2000000 in
theorem heldP_at (b off ca : Nat) (k0 : Int) (M : List Pid) (w : World) (hM : MarkedP k0 M) (hb : b < w.heap.size) (hm : M.length ≤ 2000000) (h : ∀ i, i < M.length → w.cell? ⟨b, off + i * 2, none⟩ = some (.int .i64 (M.getD i nop).1) ∧ w.cell? ⟨b, off + i * 2 + 1, none⟩ = some (.int .i64 (M.getD i nop).2)) (h0 : 0 ≤ k0) (h1 : k0 ≤ 1000000000) :
    Calls Tryd.prog 38 #[.slice (some ⟨b, off, none⟩) M.length ca, .int .i64 k0] w fun e w' => e = .returned (.int .i64 (k0 + 2 * M.length)) ∧ Below w.heap.size w w' := by
  have h : Hid (∀ i, i < M.length → w.cell? ⟨b, off + i * 2, none⟩ = some (.int .i64 (k0 + 2 * i)) ∧ w.cell? ⟨b, off + i * 2 + 1, none⟩ = some (.int .i64 (k0 + 2 * i + 1))) := Lib.hid fun i hi => by
    have := h i hi
    rw [hM i hi] at this
    exact this
  clear hM
  generalize M.length = n at hm h ⊢
  go_enter Tryd.func38, Tryd.ntmps38
  go_wp2_with fail
  go_loopw [1, 5] (fun q i wr => ∃ k : Nat, k ≤ n ∧ i = .int .i64 k ∧ q = .int .i64 (k0 + 2 * k) ∧ Below w.heap.size w wr) (fun _ i _ => n - (intOf i).toNat)
  case atStart => exact ⟨0, Nat.zero_le _, rfl, by simp, Below.refl _ _⟩
  case round =>
    obtain ⟨k, hk, rfl, rfl, hnx⟩ := hrel
    by_cases hlt : k < n
    · have c0 := (hnx.cell (p := ⟨b, off + k * 2, none⟩) hb).trans (h.out k hlt).1
      have c1 := (hnx.cell (p := ⟨b, off + k * 2 + 1, none⟩) hb).trans (h.out k hlt).2
      have hnx := Lib.hid hnx
      go_wp2_with fail
      go_roundw
      case rel => exact ⟨k + 1, by omega, by go_num, by go_num, hnx.out⟩
      case measure => simp [intOf]; omega
    · obtain rfl : k = n := by omega
      have hnx := Lib.hid hnx
      go_wp2_with fail
      go_ret
      exact ⟨rfl, hnx.out⟩

theorem heldP_nil (a : Option Addr) (ca : Nat) (k0 : Int) (w : World) :
    Calls Tryd.prog 38 #[.slice a 0 ca, .int .i64 k0] w fun e w' => e = .returned (.int .i64 (k0 + 2 * (0 : Nat))) ∧ Below w.heap.size w w' := by
  go_enter Tryd.func38, Tryd.ntmps38
  go_wp2_with fail
  refine wp_loop_rounds 1 ?_
  rw [rounds_succ]
  go_wp2_with fail
  go_ret
  exact ⟨by simp, Below.refl _ _⟩

/-- THE MARKS ARE THERE. -/
theorem heldP_any (u : Value) (k0 : Int) (M : List Pid) (w : World) (hM : MarkedP k0 M) (h : Ids w u M) (h0 : 0 ≤ k0) (h1 : k0 ≤ 1000000000) :
    Calls Tryd.prog 38 #[u, .int .i64 k0] w fun e w' => e = .returned (.int .i64 (k0 + 2 * M.length)) ∧ Below w.heap.size w w' := by
  obtain ⟨a, cap, rfl, h2, h3, h4⟩ := h
  rcases h4 with h4 | ⟨b, off, rfl, h5, h6⟩
  · rw [h4]
    exact heldP_nil a cap k0 w
  · exact heldP_at b off cap k0 M w hM h5 h3 h6 h0 h1
end Go.Proofs.YtbbnchodchgioaaDoor

/- The laws' markNodeS: what it leaves of other memory. -/
namespace Go.Proofs.YtbbnchodchgioaaDoor
open Go.RowKit
set_option linter.unusedVariables false

/-- A block with room. -/
def Sz (w : World) (b m : Nat) : Prop := ∃ cur t, w.heap[b]? = some (.cells cur t (0, 0)) ∧ m ≤ cur.size
theorem Sz.lt {w : World} {b m : Nat} (h : Sz w b m) : b < w.heap.size := by obtain ⟨_, _, h, _⟩ := h; exact lt_of_heap h
theorem Sz.cell {w : World} {b m j : Nat} (h : Sz w b m) (hj : j < m) : ∃ y, w.cell? ⟨b, j, none⟩ = some y := by
  obtain ⟨cur, t, h1, h2⟩ := h
  exact ⟨_, (cell_of_cells h1).trans (Array.getElem?_eq_getElem (by omega))⟩
theorem Sz.free {w : World} {b m : Nat} (h : Sz w b m) (j : Nat) : w.frozen? ⟨b, j, none⟩ = false := by
  obtain ⟨cur, t, h1, h2⟩ := h; simp [World.frozen?, h1]
theorem Sz.set {w : World} {b m : Nat} (h : Sz w b m) (c o : Nat) (v : Value) : Sz (w.setCell ⟨c, o, none⟩ v) b m := by
  obtain ⟨cur, t, h1, h2⟩ := h
  by_cases e : b = c
  · subst e; exact ⟨_, t, heap_setCell_same w b o cur t v h1, by simpa using h2⟩
  · exact ⟨cur, t, (heap_setCell_other w ⟨c, o, none⟩ b v e).trans h1, h2⟩
theorem OwnP.sz {w : World} {b : Nat} {v : Value} {C : List Pid} (h : OwnP w b v C) : Sz w b (2 * C.length) := by
  obtain ⟨cap, cur, t, _, h1, _, _, h4⟩ := h
  refine ⟨cur, t, h1, ?_⟩
  by_cases hz : C.length = 0
  · omega
  · have := (h4 (C.length - 1) (by omega)).2
    rcases Nat.lt_or_ge ((C.length - 1) * 2 + 1) cur.size with hh | hh
    · omega
    · rw [Array.getElem?_eq_none hh] at this; exact absurd this (by simp)
/-- Worlds where each block keeps its room. -/
def Rm (w w' : World) : Prop := ∀ b m, Sz w b m → Sz w' b m

set_option maxRecDepth 100000 in
set_option maxHeartbeats 2000000 in
theorem markZ_any (b n cap : Nat) (k0 : Int) (w : World) (h : Sz w b (2 * n)) (hn : n ≤ 2000000) (h0 : 0 ≤ k0) (h1 : k0 ≤ 1000000000000000) :
    Calls Tryd.prog 37 #[.slice (some ⟨b, 0, none⟩) n cap, .int .i64 k0] w fun e w' => e = .returned (.int .i64 (k0 + 2 * n)) ∧ Rm w w' ∧ Exc (fun c => c = b) w w' := by
  have h := Lib.hid h
  go_enter Tryd.func37, Tryd.ntmps37
  go_wp2_with fail
  go_loopw [1, 5] (fun q i wr => ∃ k : Nat, k ≤ n ∧ i = .int .i64 k ∧ q = .int .i64 (k0 + 2 * k) ∧ Hid (Rm w wr) ∧ Hid (Exc (fun c => c = b) w wr)) (fun _ i _ => n - (intOf i).toNat)
  case atStart => exact ⟨0, Nat.zero_le _, rfl, by simp, Lib.hid fun _ _ x => x, Lib.hid (Exc.refl _ _)⟩
  case round =>
    obtain ⟨k, hk, rfl, rfl, hR, hE⟩ := hrel
    by_cases hlt : k < n
    · have hS := hR.out _ _ h.out
      obtain ⟨y0, c0⟩ := hS.cell (j := k * 2) (by omega)
      obtain ⟨y1, c1⟩ := hS.cell (j := k * 2 + 1) (by omega)
      have f0 := hS.free (k * 2)
      have f1 := hS.free (k * 2 + 1)
      have hs := hS.lt
      clear hS
      have hR2 := Lib.hid (fun v u b' m' (x : Sz w b' m') => ((hR.out b' m' x).set b (k * 2) v).set b (k * 2 + 1) u)
      have hE2 := Lib.hid (fun v u => (hE.out.set (b := b) (.inl rfl) (k * 2) v).set (b := b) (.inl rfl) (k * 2 + 1) u)
      clear hR hE
      go_wp2_with fail
      go_roundw
      case rel => exact ⟨k + 1, by omega, by go_num, by go_num, Lib.hid (hR2.out _ _), Lib.hid (hE2.out _ _)⟩
      case measure => simp [intOf]; omega
    · obtain rfl : k = n := by omega
      go_wp2_with fail
      go_ret
      exact ⟨rfl, hR.out, hE.out⟩

/-- Nodes that can be marked: their blocks lie from B to E. -/
structure Mk (w : World) (B E g n : Nat) (L : Nat → Nat × Nat × Nat) : Prop where
  blk : ∃ cur t, w.heap[g]? = some (.cells cur t (0, 0)) ∧ n * 4 ≤ cur.size ∧ ∀ i, i < n → cur[i * 4 + 3]? = some (.slice (some ⟨(L i).1, 0, none⟩) (L i).2.1 (L i).2.2)
  g0 : B ≤ g
  g1 : g < E
  deps : ∀ i, i < n → (L i).1 ≠ g ∧ B ≤ (L i).1 ∧ (L i).1 < E ∧ (L i).2.1 ≤ 2000000 ∧ Sz w (L i).1 (2 * (L i).2.1)
section
variable {w w' : World} {B E g n : Nat} {L : Nat → Nat × Nat × Nat}
theorem Mk.up (h : Mk w B E g n L) (hb : Below w.heap.size w w') : Mk w' B E g n L := by
  obtain ⟨cur, t, h1, h2, h3⟩ := h.blk
  refine ⟨⟨cur, t, (hb.block g (lt_of_heap h1)).trans h1, h2, h3⟩, h.g0, h.g1, fun i hi => ?_⟩
  obtain ⟨a1, a2, a3, a4, cur', t', a5, a6⟩ := h.deps i hi
  exact ⟨a1, a2, a3, a4, cur', t', (hb.block _ (lt_of_heap a5)).trans a5, a6⟩
theorem Mk.sz (h : Mk w B E g n L) : Sz w g (n * 4) := by obtain ⟨cur, t, h1, h2, _⟩ := h.blk; exact ⟨cur, t, h1, h2⟩
theorem Mk.head (h : Mk w B E g n L) {i : Nat} (hi : i < n) : w.cell? ⟨g, i * 4 + 3, none⟩ = some (.slice (some ⟨(L i).1, 0, none⟩) (L i).2.1 (L i).2.2) := by
  obtain ⟨cur, t, h1, _, h3⟩ := h.blk; rw [cell_of_cells h1]; exact h3 i hi
theorem Mk.setg (h : Mk w B E g n L) (k : Nat) {j : Nat} (hj : j < 3) (v : Value) : Mk (w.setCell ⟨g, k * 4 + j, none⟩ v) B E g n L := by
  obtain ⟨cur, t, h1, h2, h3⟩ := h.blk
  refine ⟨⟨_, t, heap_setCell_same w g (k * 4 + j) cur t v h1, by simpa using h2, fun i hi => ?_⟩, h.g0, h.g1, fun i hi => ?_⟩
  · rw [Array.getElem?_setIfInBounds, if_neg (by omega)]; exact h3 i hi
  · obtain ⟨a1, a2, a3, a4, a5⟩ := h.deps i hi; exact ⟨a1, a2, a3, a4, a5.set _ _ _⟩
theorem Mk.marked (h : Mk w B E g n L) {i : Nat} (hi : i < n) (hr : Rm w w') (he : Exc (fun c => c = (L i).1) w w') : Mk w' B E g n L := by
  obtain ⟨cur, t, h1, h2, h3⟩ := h.blk
  refine ⟨⟨cur, t, he.at (fun e => (h.deps i hi).1 e.symm) h1, h2, h3⟩, h.g0, h.g1, fun j hj => ?_⟩
  obtain ⟨a1, a2, a3, a4, a5⟩ := h.deps j hj
  exact ⟨a1, a2, a3, a4, hr _ _ a5⟩
end
theorem NdO.mk {w : World} {B : Nat} {v : Value} {N : List Nd} (h : NdO w B v N) : ∃ g cap L, v = .slice (some ⟨g, 0, none⟩) N.length cap ∧ N.length ≤ 2000000 ∧ N.length ≤ cap ∧ Mk w B w.heap.size g N.length L := by
  obtain ⟨g, cap, cur, t, rfl, h0, hg, h1, h2, h3⟩ := h
  have hL : ∀ i, ∃ l : Nat × Nat × Nat, i < N.length → cur[i * 4 + 3]? = some (.slice (some ⟨l.1, 0, none⟩) l.2.1 l.2.2) ∧ l.1 ≠ g ∧ B ≤ l.1 ∧ l.1 < w.heap.size ∧ l.2.1 ≤ 2000000 ∧ Sz w l.1 (2 * l.2.1) := fun i => by
    by_cases hi : i < N.length
    · obtain ⟨_, _, _, b, u, q1, q2, c3, ho⟩ := h3 i hi
      have hc := ho.cap_le
      obtain ⟨uc, rfl, _⟩ := ho.shape
      exact ⟨(b, (N.getD i nd0).deps.length, uc), fun _ => ⟨c3, q2, q1, ho.lt, hc, ho.sz⟩⟩
    · exact ⟨(0, 0, 0), fun hh => absurd hh hi⟩
  refine ⟨g, cap, fun i => Classical.choose (hL i), rfl, h2, h1, ⟨⟨cur, t, hg, ?_, fun i hi => (Classical.choose_spec (hL i) hi).1⟩, h0, lt_of_heap hg, fun i hi => (Classical.choose_spec (hL i) hi).2⟩⟩
  by_cases hz : N.length = 0
  · omega
  · obtain ⟨_, _, _, b, u, _, _, c3, _⟩ := h3 (N.length - 1) (by omega)
    rcases Nat.lt_or_ge ((N.length - 1) * 4 + 3) cur.size with hh | hh
    · omega
    · rw [Array.getElem?_eq_none hh] at c3; exact absurd c3 (by simp)

set_option maxRecDepth 100000 in
set_option maxHeartbeats 4000000 in
/-- MARKS IN NODES: all else stays. -/
theorem markNs_any (B E g n cap : Nat) (L : Nat → Nat × Nat × Nat) (w : World) (hn : n ≤ 2000000) (h : Mk w B E g n L) :
    Calls Tryd.prog 36 #[.slice (some ⟨g, 0, none⟩) n cap, .int .i64 1] w fun e w' => ∃ z : Int, e = .returned (.int .i64 z) ∧ 0 ≤ z ∧ Exc (fun c => B ≤ c ∧ c < E) w w' := by
  have h := Lib.hid h
  have hg0 := h.out.g0
  have hg1 := h.out.g1
  go_enter Tryd.func36, Tryd.ntmps36
  go_wp2_with fail
  go_loopw [1, 5] (fun q i wr => ∃ (k : Nat) (z : Int), k ≤ n ∧ i = .int .i64 k ∧ q = .int .i64 z ∧ 0 ≤ z ∧ z ≤ 1 + 4000003 * k ∧ Hid (Mk wr B E g n L) ∧ Hid (Exc (fun c => B ≤ c ∧ c < E) w wr)) (fun _ i _ => n - (intOf i).toNat)
  case atStart => exact ⟨0, 1, Nat.zero_le _, rfl, rfl, by omega, by omega, h, Lib.hid (Exc.refl _ _)⟩
  case round =>
    clear h
    obtain ⟨k, z, hk, rfl, rfl, hz0, hz1, hM, hE⟩ := hrel
    by_cases hlt : k < n
    · have hS := hM.out.sz
      obtain ⟨y0, c0⟩ := hS.cell (j := k * 4) (by omega)
      obtain ⟨y1, c1⟩ := hS.cell (j := k * 4 + 1) (by omega)
      obtain ⟨y2, c2⟩ := hS.cell (j := k * 4 + 2) (by omega)
      have c3 := hM.out.head hlt
      have f0 := hS.free (k * 4)
      have f1 := hS.free (k * 4 + 1)
      have f2 := hS.free (k * 4 + 2)
      have hs := hS.lt
      have hM2 := ((hM.out.setg k (j := 0) (by omega) (.int .i64 z)).setg k (j := 1) (by omega) (.int .i64 (z + 1))).setg k (j := 2) (by omega) (.int .i64 (z + 1 + 1))
      have hE2 := ((hE.out.set (b := g) (.inl ⟨hg0, hg1⟩) (k * 4) (.int .i64 z)).set (b := g) (.inl ⟨hg0, hg1⟩) (k * 4 + 1) (.int .i64 (z + 1))).set (b := g) (.inl ⟨hg0, hg1⟩) (k * 4 + 2) (.int .i64 (z + 1 + 1))
      rw [Nat.add_zero] at hM2
      have hM2 := Lib.hid hM2
      have hE2 := Lib.hid hE2
      obtain ⟨d1, d2, d3, d4, d5⟩ := hM2.out.deps k hlt
      have mz := fun k0 => markZ_any _ _ (L k).2.2 k0 _ d5 d4
      obtain ⟨⟨lb, ln, lc⟩, hl⟩ : ∃ x, Hid (L k = x) := ⟨_, Lib.hid rfl⟩
      rw [hl.out] at c3 mz d2 d3 d4
      dsimp only at c3 mz d2 d3 d4
      clear hM hE d5 d1
      go_wp2_with fail
      refine (mz _ (by omega) (by omega)).mono ?_
      rintro e w3 ⟨rfl, hR3, hE3⟩
      have hM3 := Lib.hid (hM2.out.marked hlt hR3 (by rw [hl.out]; exact hE3))
      have hE4 := Lib.hid (hE2.out.trans hE3 (fun b _ e => by subst e; exact ⟨d2, d3⟩))
      clear hM2 hE2 hR3 hE3 mz c0 c1 c2 c3 f0 f1 f2
      go_wp2_with fail
      refine ⟨⟨k + 1, z + 1 + 1 + 1 + 2 * ln, by omega, by go_num, by go_num, by omega, by omega, hM3, hE4⟩, ?_⟩
      simp [intOf]; omega
    · obtain rfl : k = n := by omega
      go_wp2_with fail
      go_ret
      exact ⟨z, rfl, hz0, hE.out⟩
end Go.Proofs.YtbbnchodchgioaaDoor
