/- Texts laid together. -/
import Derived.Test.YtfcjhojkfchccaaDoorC08
import Derived.Test.YtfcjhojkfchccaaDoorC35
/- The laws' markEntryS, heldEntryS: what they leave of other memory. -/
namespace Go.Proofs.YtfcjhojkfchccaaDoor
open Go.RowKit
set_option linter.unusedVariables false

/-- Entries that can be marked: their blocks lie from B to E. -/
structure MkE (w : World) (B E g n : Nat) (L : Nat → Nat × Nat × Nat) : Prop where
  blk : ∃ cur t, w.heap[g]? = some (.cells cur t (0, 0)) ∧ n * 9 ≤ cur.size ∧ ∀ i, i < n → cur[i * 9 + 8]? = some (.slice (some ⟨(L i).1, 0, none⟩) (L i).2.1 (L i).2.2)
  g0 : B ≤ g
  g1 : g < E
  deps : ∀ i, i < n → (L i).1 ≠ g ∧ B ≤ (L i).1 ∧ (L i).1 < E ∧ (L i).2.1 ≤ 2000000 ∧ Sz w (L i).1 (2 * (L i).2.1)
section
variable {w w' : World} {B E g n : Nat} {L : Nat → Nat × Nat × Nat}
theorem MkE.up (h : MkE w B E g n L) (hb : Below w.heap.size w w') : MkE w' B E g n L := by
  obtain ⟨cur, t, h1, h2, h3⟩ := h.blk
  refine ⟨⟨cur, t, (hb.block g (lt_of_heap h1)).trans h1, h2, h3⟩, h.g0, h.g1, fun i hi => ?_⟩
  obtain ⟨a1, a2, a3, a4, cur', t', a5, a6⟩ := h.deps i hi
  exact ⟨a1, a2, a3, a4, cur', t', (hb.block _ (lt_of_heap a5)).trans a5, a6⟩
theorem MkE.sz (h : MkE w B E g n L) : Sz w g (n * 9) := by obtain ⟨cur, t, h1, h2, _⟩ := h.blk; exact ⟨cur, t, h1, h2⟩
theorem MkE.head (h : MkE w B E g n L) {i : Nat} (hi : i < n) : w.cell? ⟨g, i * 9 + 8, none⟩ = some (.slice (some ⟨(L i).1, 0, none⟩) (L i).2.1 (L i).2.2) := by
  obtain ⟨cur, t, h1, _, h3⟩ := h.blk; rw [cell_of_cells h1]; exact h3 i hi
theorem MkE.setg (h : MkE w B E g n L) (k : Nat) {j : Nat} (hj : j < 8) (v : Value) : MkE (w.setCell ⟨g, k * 9 + j, none⟩ v) B E g n L := by
  obtain ⟨cur, t, h1, h2, h3⟩ := h.blk
  refine ⟨⟨_, t, heap_setCell_same w g (k * 9 + j) cur t v h1, by simpa using h2, fun i hi => ?_⟩, h.g0, h.g1, fun i hi => ?_⟩
  · rw [Array.getElem?_setIfInBounds, if_neg (by omega)]; exact h3 i hi
  · obtain ⟨a1, a2, a3, a4, a5⟩ := h.deps i hi; exact ⟨a1, a2, a3, a4, a5.set _ _ _⟩
theorem MkE.marked (h : MkE w B E g n L) {i : Nat} (hi : i < n) (hr : Rm w w') (he : Exc (fun c => c = (L i).1) w w') : MkE w' B E g n L := by
  obtain ⟨cur, t, h1, h2, h3⟩ := h.blk
  refine ⟨⟨cur, t, he.at (fun e => (h.deps i hi).1 e.symm) h1, h2, h3⟩, h.g0, h.g1, fun j hj => ?_⟩
  obtain ⟨a1, a2, a3, a4, a5⟩ := h.deps j hj
  exact ⟨a1, a2, a3, a4, hr _ _ a5⟩
end
theorem EnO.mk {w : World} {B : Nat} {v : Value} {N : List En} (h : EnO w B v N) : ∃ g cap L, v = .slice (some ⟨g, 0, none⟩) N.length cap ∧ N.length ≤ 2000000 ∧ N.length ≤ cap ∧ MkE w B w.heap.size g N.length L := by
  obtain ⟨g, cap, cur, t, rfl, h0, hg, h1, h2, h3⟩ := h
  have hL : ∀ i, ∃ l : Nat × Nat × Nat, i < N.length → cur[i * 9 + 8]? = some (.slice (some ⟨l.1, 0, none⟩) l.2.1 l.2.2) ∧ l.1 ≠ g ∧ B ≤ l.1 ∧ l.1 < w.heap.size ∧ l.2.1 ≤ 2000000 ∧ Sz w l.1 (2 * l.2.1) := fun i => by
    by_cases hi : i < N.length
    · obtain ⟨b, u, q1, q2, hc, ho⟩ := h3 i hi
      have hl := ho.cap_le
      obtain ⟨uc, rfl, _⟩ := ho.shape
      exact ⟨(b, (N.getD i en0).deps.length, uc), fun _ => ⟨hc 8 (by omega), q2, q1, ho.lt, hl, ho.sz⟩⟩
    · exact ⟨(0, 0, 0), fun hh => absurd hh hi⟩
  refine ⟨g, cap, fun i => Classical.choose (hL i), rfl, h2, h1, ⟨⟨cur, t, hg, ?_, fun i hi => (Classical.choose_spec (hL i) hi).1⟩, h0, lt_of_heap hg, fun i hi => (Classical.choose_spec (hL i) hi).2⟩⟩
  by_cases hz : N.length = 0
  · omega
  · obtain ⟨b, u, _, _, hc, _⟩ := h3 (N.length - 1) (by omega)
    have c8 := hc 8 (by omega)
    rcases Nat.lt_or_ge ((N.length - 1) * 9 + 8) cur.size with hh | hh
    · omega
    · rw [Array.getElem?_eq_none hh] at c8; exact absurd c8 (by simp [enc9])

set_option maxRecDepth 100000 in
set_option maxHeartbeats 4000000 in
/-- MARKS IN ENTRIES: all else stays. -/
theorem markEs_le (B E g n cap : Nat) (L : Nat → Nat × Nat × Nat) (w : World) (hn : n ≤ 2000000) (h : MkE w B E g n L) :
    Calls Tryd.prog 27 #[.slice (some ⟨g, 0, none⟩) n cap, .int .i64 1] w fun e w' => ∃ z : Int, e = .returned (.int .i64 z) ∧ 0 ≤ z ∧ z ≤ 8000016000001 ∧ Exc (fun c => B ≤ c ∧ c < E) w w' := by
  have h := Lib.hid h
  have hg0 := h.out.g0
  have hg1 := h.out.g1
  go_enter Tryd.func27, Tryd.ntmps27
  go_wp2_with fail
  go_loopw [1, 5] (fun q i wr => ∃ (k : Nat) (z : Int), k ≤ n ∧ i = .int .i64 k ∧ q = .int .i64 z ∧ 0 ≤ z ∧ z ≤ 1 + 4000008 * k ∧ Hid (MkE wr B E g n L) ∧ Hid (Exc (fun c => B ≤ c ∧ c < E) w wr)) (fun _ i _ => n - (intOf i).toNat)
  case atStart => exact ⟨0, 1, Nat.zero_le _, rfl, rfl, by omega, by omega, h, Lib.hid (Exc.refl _ _)⟩
  case round =>
    clear h
    obtain ⟨k, z, hk, rfl, rfl, hz0, hz1, hM, hE⟩ := hrel
    by_cases hlt : k < n
    · have hS := hM.out.sz
      obtain ⟨y0, c0⟩ := hS.cell (j := k * 9) (by omega)
      obtain ⟨y1, c1⟩ := hS.cell (j := k * 9 + 1) (by omega)
      obtain ⟨y2, c2⟩ := hS.cell (j := k * 9 + 2) (by omega)
      obtain ⟨y3, c3⟩ := hS.cell (j := k * 9 + 3) (by omega)
      obtain ⟨y4, c4⟩ := hS.cell (j := k * 9 + 4) (by omega)
      obtain ⟨y5, c5⟩ := hS.cell (j := k * 9 + 5) (by omega)
      obtain ⟨y6, c6⟩ := hS.cell (j := k * 9 + 6) (by omega)
      obtain ⟨y7, c7⟩ := hS.cell (j := k * 9 + 7) (by omega)
      have c8 := hM.out.head hlt
      have f0 := hS.free (k * 9)
      have f1 := hS.free (k * 9 + 1)
      have f2 := hS.free (k * 9 + 2)
      have f3 := hS.free (k * 9 + 3)
      have f4 := hS.free (k * 9 + 4)
      have f5 := hS.free (k * 9 + 5)
      have f6 := hS.free (k * 9 + 6)
      have f7 := hS.free (k * 9 + 7)
      have hs := hS.lt
      have hM2 := ((((((((hM.out.setg k (j := 0) (by omega) (.int .i64 (z))).setg k (j := 1) (by omega) (.int .i64 (z + 1))).setg k (j := 2) (by omega) (.int .i64 (z + 1 + 1))).setg k (j := 3) (by omega) (.int .i64 (z + 1 + 1 + 1))).setg k (j := 4) (by omega) (.int .i64 (z + 1 + 1 + 1 + 1))).setg k (j := 5) (by omega) (.int .i64 (z + 1 + 1 + 1 + 1 + 1))).setg k (j := 6) (by omega) (.int .i64 (z + 1 + 1 + 1 + 1 + 1 + 1))).setg k (j := 7) (by omega) (.int .i64 (z + 1 + 1 + 1 + 1 + 1 + 1 + 1)))
      have hE2 := ((((((((hE.out.set (b := g) (.inl ⟨hg0, hg1⟩) (k * 9) (.int .i64 (z))).set (b := g) (.inl ⟨hg0, hg1⟩) (k * 9 + 1) (.int .i64 (z + 1))).set (b := g) (.inl ⟨hg0, hg1⟩) (k * 9 + 2) (.int .i64 (z + 1 + 1))).set (b := g) (.inl ⟨hg0, hg1⟩) (k * 9 + 3) (.int .i64 (z + 1 + 1 + 1))).set (b := g) (.inl ⟨hg0, hg1⟩) (k * 9 + 4) (.int .i64 (z + 1 + 1 + 1 + 1))).set (b := g) (.inl ⟨hg0, hg1⟩) (k * 9 + 5) (.int .i64 (z + 1 + 1 + 1 + 1 + 1))).set (b := g) (.inl ⟨hg0, hg1⟩) (k * 9 + 6) (.int .i64 (z + 1 + 1 + 1 + 1 + 1 + 1))).set (b := g) (.inl ⟨hg0, hg1⟩) (k * 9 + 7) (.int .i64 (z + 1 + 1 + 1 + 1 + 1 + 1 + 1)))
      rw [Nat.add_zero] at hM2
      have hM2 := Lib.hid hM2
      have hE2 := Lib.hid hE2
      obtain ⟨d1, d2, d3, d4, d5⟩ := hM2.out.deps k hlt
      have mz := fun k0 => markZ_any _ _ (L k).2.2 k0 _ d5 d4
      obtain ⟨⟨lb, ln, lc⟩, hl⟩ : ∃ x, Hid (L k = x) := ⟨_, Lib.hid rfl⟩
      rw [hl.out] at c8 mz d2 d3 d4
      dsimp only at c8 mz d2 d3 d4
      clear hM hE d5 d1
      go_wp2_with fail
      refine (mz _ (by omega) (by omega)).mono ?_
      rintro e w3 ⟨rfl, hR3, hE3⟩
      have hM3 := Lib.hid (hM2.out.marked hlt hR3 (by rw [hl.out]; exact hE3))
      have hE4 := Lib.hid (hE2.out.trans hE3 (fun b _ e => by subst e; exact ⟨d2, d3⟩))
      clear hM2 hE2 hR3 hE3 mz c0 c1 c2 c3 c4 c5 c6 c7 c8 f0 f1 f2 f3 f4 f5 f6 f7
      go_wp2_with fail
      refine ⟨⟨k + 1, z + 1 + 1 + 1 + 1 + 1 + 1 + 1 + 1 + 2 * ln, by omega, by go_num, by go_num, by omega, by omega, hM3, hE4⟩, ?_⟩
      simp [intOf]; omega
    · obtain rfl : k = n := by omega
      go_wp2_with fail
      go_ret
      exact ⟨z, rfl, hz0, by omega, hE.out⟩
theorem markEs_any (B E g n cap : Nat) (L : Nat → Nat × Nat × Nat) (w : World) (hn : n ≤ 2000000) (h : MkE w B E g n L) :
    Calls Tryd.prog 27 #[.slice (some ⟨g, 0, none⟩) n cap, .int .i64 1] w fun e w' => ∃ z : Int, e = .returned (.int .i64 z) ∧ 0 ≤ z ∧ Exc (fun c => B ≤ c ∧ c < E) w w' := by
  refine (markEs_le B E g n cap L w hn h).mono ?_
  rintro e w' ⟨z, rfl, h0, _, hx⟩
  exact ⟨z, rfl, h0, hx⟩
end Go.Proofs.YtfcjhojkfchccaaDoor

/- The laws' markEntryS, from any mark on. -/
namespace Go.Proofs.YtfcjhojkfchccaaDoor
open Go.RowKit
set_option linter.unusedVariables false

set_option maxRecDepth 100000 in
set_option maxHeartbeats 4000000 in
/-- MARKS IN ENTRIES: all else stays. -/
theorem markEs_lez (B E g n cap : Nat) (L : Nat → Nat × Nat × Nat) (z0 : Int) (hz0 : 0 ≤ z0) (hz1 : z0 ≤ 4000001) (w : World) (hn : n ≤ 2000000) (h : MkE w B E g n L) :
    Calls Tryd.prog 27 #[.slice (some ⟨g, 0, none⟩) n cap, .int .i64 z0] w fun e w' => ∃ z : Int, e = .returned (.int .i64 z) ∧ 0 ≤ z ∧ z ≤ 8000020000001 ∧ Exc (fun c => B ≤ c ∧ c < E) w w' := by
  have h := Lib.hid h
  have hg0 := h.out.g0
  have hg1 := h.out.g1
  go_enter Tryd.func27, Tryd.ntmps27
  go_wp2_with fail
  go_loopw [1, 5] (fun q i wr => ∃ (k : Nat) (z : Int), k ≤ n ∧ i = .int .i64 k ∧ q = .int .i64 z ∧ 0 ≤ z ∧ z ≤ z0 + 4000008 * k ∧ Hid (MkE wr B E g n L) ∧ Hid (Exc (fun c => B ≤ c ∧ c < E) w wr)) (fun _ i _ => n - (intOf i).toNat)
  case atStart => exact ⟨0, z0, Nat.zero_le _, rfl, rfl, by omega, by omega, h, Lib.hid (Exc.refl _ _)⟩
  case round =>
    clear h
    obtain ⟨k, z, hk, rfl, rfl, hz0, hz1, hM, hE⟩ := hrel
    by_cases hlt : k < n
    · have hS := hM.out.sz
      obtain ⟨y0, c0⟩ := hS.cell (j := k * 9) (by omega)
      obtain ⟨y1, c1⟩ := hS.cell (j := k * 9 + 1) (by omega)
      obtain ⟨y2, c2⟩ := hS.cell (j := k * 9 + 2) (by omega)
      obtain ⟨y3, c3⟩ := hS.cell (j := k * 9 + 3) (by omega)
      obtain ⟨y4, c4⟩ := hS.cell (j := k * 9 + 4) (by omega)
      obtain ⟨y5, c5⟩ := hS.cell (j := k * 9 + 5) (by omega)
      obtain ⟨y6, c6⟩ := hS.cell (j := k * 9 + 6) (by omega)
      obtain ⟨y7, c7⟩ := hS.cell (j := k * 9 + 7) (by omega)
      have c8 := hM.out.head hlt
      have f0 := hS.free (k * 9)
      have f1 := hS.free (k * 9 + 1)
      have f2 := hS.free (k * 9 + 2)
      have f3 := hS.free (k * 9 + 3)
      have f4 := hS.free (k * 9 + 4)
      have f5 := hS.free (k * 9 + 5)
      have f6 := hS.free (k * 9 + 6)
      have f7 := hS.free (k * 9 + 7)
      have hs := hS.lt
      have hM2 := ((((((((hM.out.setg k (j := 0) (by omega) (.int .i64 (z))).setg k (j := 1) (by omega) (.int .i64 (z + 1))).setg k (j := 2) (by omega) (.int .i64 (z + 1 + 1))).setg k (j := 3) (by omega) (.int .i64 (z + 1 + 1 + 1))).setg k (j := 4) (by omega) (.int .i64 (z + 1 + 1 + 1 + 1))).setg k (j := 5) (by omega) (.int .i64 (z + 1 + 1 + 1 + 1 + 1))).setg k (j := 6) (by omega) (.int .i64 (z + 1 + 1 + 1 + 1 + 1 + 1))).setg k (j := 7) (by omega) (.int .i64 (z + 1 + 1 + 1 + 1 + 1 + 1 + 1)))
      have hE2 := ((((((((hE.out.set (b := g) (.inl ⟨hg0, hg1⟩) (k * 9) (.int .i64 (z))).set (b := g) (.inl ⟨hg0, hg1⟩) (k * 9 + 1) (.int .i64 (z + 1))).set (b := g) (.inl ⟨hg0, hg1⟩) (k * 9 + 2) (.int .i64 (z + 1 + 1))).set (b := g) (.inl ⟨hg0, hg1⟩) (k * 9 + 3) (.int .i64 (z + 1 + 1 + 1))).set (b := g) (.inl ⟨hg0, hg1⟩) (k * 9 + 4) (.int .i64 (z + 1 + 1 + 1 + 1))).set (b := g) (.inl ⟨hg0, hg1⟩) (k * 9 + 5) (.int .i64 (z + 1 + 1 + 1 + 1 + 1))).set (b := g) (.inl ⟨hg0, hg1⟩) (k * 9 + 6) (.int .i64 (z + 1 + 1 + 1 + 1 + 1 + 1))).set (b := g) (.inl ⟨hg0, hg1⟩) (k * 9 + 7) (.int .i64 (z + 1 + 1 + 1 + 1 + 1 + 1 + 1)))
      rw [Nat.add_zero] at hM2
      have hM2 := Lib.hid hM2
      have hE2 := Lib.hid hE2
      obtain ⟨d1, d2, d3, d4, d5⟩ := hM2.out.deps k hlt
      have mz := fun k0 => markZ_any _ _ (L k).2.2 k0 _ d5 d4
      obtain ⟨⟨lb, ln, lc⟩, hl⟩ : ∃ x, Hid (L k = x) := ⟨_, Lib.hid rfl⟩
      rw [hl.out] at c8 mz d2 d3 d4
      dsimp only at c8 mz d2 d3 d4
      clear hM hE d5 d1
      go_wp2_with fail
      refine (mz _ (by omega) (by omega)).mono ?_
      rintro e w3 ⟨rfl, hR3, hE3⟩
      have hM3 := Lib.hid (hM2.out.marked hlt hR3 (by rw [hl.out]; exact hE3))
      have hE4 := Lib.hid (hE2.out.trans hE3 (fun b _ e => by subst e; exact ⟨d2, d3⟩))
      clear hM2 hE2 hR3 hE3 mz c0 c1 c2 c3 c4 c5 c6 c7 c8 f0 f1 f2 f3 f4 f5 f6 f7
      go_wp2_with fail
      refine ⟨⟨k + 1, z + 1 + 1 + 1 + 1 + 1 + 1 + 1 + 1 + 2 * ln, by omega, by go_num, by go_num, by omega, by omega, hM3, hE4⟩, ?_⟩
      simp [intOf]; omega
    · obtain rfl : k = n := by omega
      go_wp2_with fail
      go_ret
      exact ⟨z, rfl, hz0, by omega, hE.out⟩
end Go.Proofs.YtfcjhojkfchccaaDoor
