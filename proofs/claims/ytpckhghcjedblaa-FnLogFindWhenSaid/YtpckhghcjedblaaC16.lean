/- Texts laid together. -/
import Derived.Test.YtpckhghcjedblaaC12
import Derived.Test.YtpckhghcjedblaaC11
import Derived.Test.YtpckhghcjedblaaC01
import Derived.Deep.RegionWith
/- The laws' markEntryS, heldEntryS: what they leave of other memory. -/
namespace Go.Proofs.Ytpckhghcjedblaa
open Go.RowKit
set_option linter.unusedVariables false

/-- Entries that can be marked: their blocks lie from B to E. -/
structure MkE (w : World) (B E g n : Nat) (L : Nat → Nat × Nat × Nat) : Prop where
  blk : ∃ cur t, w.heap[g]? = some (.cells cur t (0, 0)) ∧ n * 9 ≤ cur.size ∧ ∀ i, i < n → cur[i * 9 + 8]? = some (.slice (some ⟨(L i).1, 0, none⟩) (L i).2.1 (L i).2.2)
  g0 : B ≤ g
  g1 : g < E
  deps : ∀ i, i < n → (L i).1 ≠ g ∧ B ≤ (L i).1 ∧ (L i).1 < E ∧ (L i).2.1 ≤ 2000000 ∧ Sz w (L i).1 (2 * (L i).2.1)
section
variable {w w' : World} {B E g n : Nat} {L : Nat → Nat × Nat × Nat}
theorem MkE.up (h : MkE w B E g n L) (hb : Below w.heap.size w w') : MkE w' B E g n L := by
  obtain ⟨cur, t, h1, h2, h3⟩ := h.blk
  refine ⟨⟨cur, t, (hb.block g (lt_of_heap h1)).trans h1, h2, h3⟩, h.g0, h.g1, fun i hi => ?_⟩
  obtain ⟨a1, a2, a3, a4, cur', t', a5, a6⟩ := h.deps i hi
  exact ⟨a1, a2, a3, a4, cur', t', (hb.block _ (lt_of_heap a5)).trans a5, a6⟩
theorem MkE.sz (h : MkE w B E g n L) : Sz w g (n * 9) := by obtain ⟨cur, t, h1, h2, _⟩ := h.blk; exact ⟨cur, t, h1, h2⟩
theorem MkE.head (h : MkE w B E g n L) {i : Nat} (hi : i < n) : w.cell? ⟨g, i * 9 + 8, none⟩ = some (.slice (some ⟨(L i).1, 0, none⟩) (L i).2.1 (L i).2.2) := by
  obtain ⟨cur, t, h1, _, h3⟩ := h.blk; rw [cell_of_cells h1]; exact h3 i hi
theorem MkE.setg (h : MkE w B E g n L) (k : Nat) {j : Nat} (hj : j < 8) (v : Value) : MkE (w.setCell ⟨g, k * 9 + j, none⟩ v) B E g n L := by
  obtain ⟨cur, t, h1, h2, h3⟩ := h.blk
  refine ⟨⟨_, t, heap_setCell_same w g (k * 9 + j) cur t v h1, by simpa using h2, fun i hi => ?_⟩, h.g0, h.g1, fun i hi => ?_⟩
  · rw [Array.getElem?_setIfInBounds, if_neg (by omega)]; exact h3 i hi
  · obtain ⟨a1, a2, a3, a4, a5⟩ := h.deps i hi; exact ⟨a1, a2, a3, a4, a5.set _ _ _⟩
theorem MkE.marked (h : MkE w B E g n L) {i : Nat} (hi : i < n) (hr : Rm w w') (he : Exc (fun c => c = (L i).1) w w') : MkE w' B E g n L := by
  obtain ⟨cur, t, h1, h2, h3⟩ := h.blk
  refine ⟨⟨cur, t, he.at (fun e => (h.deps i hi).1 e.symm) h1, h2, h3⟩, h.g0, h.g1, fun j hj => ?_⟩
  obtain ⟨a1, a2, a3, a4, a5⟩ := h.deps j hj
  exact ⟨a1, a2, a3, a4, hr _ _ a5⟩
end
theorem EnO.mk {w : World} {B : Nat} {v : Value} {N : List En} (h : EnO w B v N) : ∃ g cap L, v = .slice (some ⟨g, 0, none⟩) N.length cap ∧ N.length ≤ 2000000 ∧ N.length ≤ cap ∧ MkE w B w.heap.size g N.length L := by
  obtain ⟨g, cap, cur, t, rfl, h0, hg, h1, h2, h3⟩ := h
  have hL : ∀ i, ∃ l : Nat × Nat × Nat, i < N.length → cur[i * 9 + 8]? = some (.slice (some ⟨l.1, 0, none⟩) l.2.1 l.2.2) ∧ l.1 ≠ g ∧ B ≤ l.1 ∧ l.1 < w.heap.size ∧ l.2.1 ≤ 2000000 ∧ Sz w l.1 (2 * l.2.1) := fun i => by
    by_cases hi : i < N.length
    · obtain ⟨b, u, q1, q2, hc, ho⟩ := h3 i hi
      have hl := ho.cap_le
      obtain ⟨uc, rfl, _⟩ := ho.shape
      exact ⟨(b, (N.getD i en0).deps.length, uc), fun _ => ⟨hc 8 (by omega), q2, q1, ho.lt, hl, ho.sz⟩⟩
    · exact ⟨(0, 0, 0), fun hh => absurd hh hi⟩
  refine ⟨g, cap, fun i => Classical.choose (hL i), rfl, h2, h1, ⟨⟨cur, t, hg, ?_, fun i hi => (Classical.choose_spec (hL i) hi).1⟩, h0, lt_of_heap hg, fun i hi => (Classical.choose_spec (hL i) hi).2⟩⟩
  by_cases hz : N.length = 0
  · omega
  · obtain ⟨b, u, _, _, hc, _⟩ := h3 (N.length - 1) (by omega)
    have c8 := hc 8 (by omega)
    rcases Nat.lt_or_ge ((N.length - 1) * 9 + 8) cur.size with hh | hh
    · omega
    · rw [Array.getElem?_eq_none hh] at c8; exact absurd c8 (by simp [enc9])

set_option maxRecDepth 100000 in
set_option maxHeartbeats 4000000 in
/-- MARKS IN ENTRIES: all else stays. -/
theorem markEs_any (B E g n cap : Nat) (L : Nat → Nat × Nat × Nat) (w : World) (hn : n ≤ 2000000) (h : MkE w B E g n L) :
    Calls Try.prog 32 #[.slice (some ⟨g, 0, none⟩) n cap, .int .i64 1] w fun e w' => ∃ z : Int, e = .returned (.int .i64 z) ∧ 0 ≤ z ∧ Exc (fun c => B ≤ c ∧ c < E) w w' := by
  have h := Lib.hid h
  have hg0 := h.out.g0
  have hg1 := h.out.g1
  go_enter Try.func32, Try.ntmps32
  go_wp2_with fail
  go_loopw [1, 5] (fun q i wr => ∃ (k : Nat) (z : Int), k ≤ n ∧ i = .int .i64 k ∧ q = .int .i64 z ∧ 0 ≤ z ∧ z ≤ 1 + 4000008 * k ∧ Hid (MkE wr B E g n L) ∧ Hid (Exc (fun c => B ≤ c ∧ c < E) w wr)) (fun _ i _ => n - (intOf i).toNat)
  case atStart => exact ⟨0, 1, Nat.zero_le _, rfl, rfl, by omega, by omega, h, Lib.hid (Exc.refl _ _)⟩
  case round =>
    clear h
    obtain ⟨k, z, hk, rfl, rfl, hz0, hz1, hM, hE⟩ := hrel
    by_cases hlt : k < n
    · have hS := hM.out.sz
      obtain ⟨y0, c0⟩ := hS.cell (j := k * 9) (by omega)
      obtain ⟨y1, c1⟩ := hS.cell (j := k * 9 + 1) (by omega)
      obtain ⟨y2, c2⟩ := hS.cell (j := k * 9 + 2) (by omega)
      obtain ⟨y3, c3⟩ := hS.cell (j := k * 9 + 3) (by omega)
      obtain ⟨y4, c4⟩ := hS.cell (j := k * 9 + 4) (by omega)
      obtain ⟨y5, c5⟩ := hS.cell (j := k * 9 + 5) (by omega)
      obtain ⟨y6, c6⟩ := hS.cell (j := k * 9 + 6) (by omega)
      obtain ⟨y7, c7⟩ := hS.cell (j := k * 9 + 7) (by omega)
      have c8 := hM.out.head hlt
      have f0 := hS.free (k * 9)
      have f1 := hS.free (k * 9 + 1)
      have f2 := hS.free (k * 9 + 2)
      have f3 := hS.free (k * 9 + 3)
      have f4 := hS.free (k * 9 + 4)
      have f5 := hS.free (k * 9 + 5)
      have f6 := hS.free (k * 9 + 6)
      have f7 := hS.free (k * 9 + 7)
      have hs := hS.lt
      have hM2 := ((((((((hM.out.setg k (j := 0) (by omega) (.int .i64 (z))).setg k (j := 1) (by omega) (.int .i64 (z + 1))).setg k (j := 2) (by omega) (.int .i64 (z + 1 + 1))).setg k (j := 3) (by omega) (.int .i64 (z + 1 + 1 + 1))).setg k (j := 4) (by omega) (.int .i64 (z + 1 + 1 + 1 + 1))).setg k (j := 5) (by omega) (.int .i64 (z + 1 + 1 + 1 + 1 + 1))).setg k (j := 6) (by omega) (.int .i64 (z + 1 + 1 + 1 + 1 + 1 + 1))).setg k (j := 7) (by omega) (.int .i64 (z + 1 + 1 + 1 + 1 + 1 + 1 + 1)))
      have hE2 := ((((((((hE.out.set (b := g) (.inl ⟨hg0, hg1⟩) (k * 9) (.int .i64 (z))).set (b := g) (.inl ⟨hg0, hg1⟩) (k * 9 + 1) (.int .i64 (z + 1))).set (b := g) (.inl ⟨hg0, hg1⟩) (k * 9 + 2) (.int .i64 (z + 1 + 1))).set (b := g) (.inl ⟨hg0, hg1⟩) (k * 9 + 3) (.int .i64 (z + 1 + 1 + 1))).set (b := g) (.inl ⟨hg0, hg1⟩) (k * 9 + 4) (.int .i64 (z + 1 + 1 + 1 + 1))).set (b := g) (.inl ⟨hg0, hg1⟩) (k * 9 + 5) (.int .i64 (z + 1 + 1 + 1 + 1 + 1))).set (b := g) (.inl ⟨hg0, hg1⟩) (k * 9 + 6) (.int .i64 (z + 1 + 1 + 1 + 1 + 1 + 1))).set (b := g) (.inl ⟨hg0, hg1⟩) (k * 9 + 7) (.int .i64 (z + 1 + 1 + 1 + 1 + 1 + 1 + 1)))
      rw [Nat.add_zero] at hM2
      have hM2 := Lib.hid hM2
      have hE2 := Lib.hid hE2
      obtain ⟨d1, d2, d3, d4, d5⟩ := hM2.out.deps k hlt
      have mz := fun k0 => markZ_any _ _ (L k).2.2 k0 _ d5 d4
      obtain ⟨⟨lb, ln, lc⟩, hl⟩ : ∃ x, Hid (L k = x) := ⟨_, Lib.hid rfl⟩
      rw [hl.out] at c8 mz d2 d3 d4
      dsimp only at c8 mz d2 d3 d4
      clear hM hE d5 d1
      go_wp2_with fail
      refine (mz _ (by omega) (by omega)).mono ?_
      rintro e w3 ⟨rfl, hR3, hE3⟩
      have hM3 := Lib.hid (hM2.out.marked hlt hR3 (by rw [hl.out]; exact hE3))
      have hE4 := Lib.hid (hE2.out.trans hE3 (fun b _ e => by subst e; exact ⟨d2, d3⟩))
      clear hM2 hE2 hR3 hE3 mz c0 c1 c2 c3 c4 c5 c6 c7 c8 f0 f1 f2 f3 f4 f5 f6 f7
      go_wp2_with fail
      refine ⟨⟨k + 1, z + 1 + 1 + 1 + 1 + 1 + 1 + 1 + 1 + 2 * ln, by omega, by go_num, by go_num, by omega, by omega, hM3, hE4⟩, ?_⟩
      simp [intOf]; omega
    · obtain rfl : k = n := by omega
      go_wp2_with fail
      go_ret
      exact ⟨z, rfl, hz0, hE.out⟩
end Go.Proofs.Ytpckhghcjedblaa

/- The laws' comparison of entries. -/
namespace Go.Proofs.Ytpckhghcjedblaa
open Go.RowKit
set_option linter.unusedVariables false

theorem holdE {w : World} {o x : Obj} {b : Nat} (h : w.heap[b]? = some x) : (w.alloc o).heap[b]? = some x := (Below.heap_alloc _ _ _ (lt_of_heap h)).trans h

theorem eqCe (k key v : Int) (w : World) : Calls Try.prog 59 #[.agg #[.int .i64 k, .int .i64 key, .int .i64 v], .agg #[.int .i64 k, .int .i64 key, .int .i64 v]] w fun e w' => e = .returned (.bool true) ∧ Below w.heap.size w w' := by
  go_enter Try.func59, Try.ntmps59
  go_wp2_with fail
  go_ret
  exact ⟨rfl, ((Below.refl _ _).alloc (Nat.le_refl _) _).alloc (by simp) _⟩

set_option maxRecDepth 100000 in
set_option maxHeartbeats 2000000 in
/-- An entry is like itself. -/
theorem eqE_any (x : En) (u v' : Value) (w : World) (hu : Ids w u x.deps) (hv : Ids w v' x.deps) :
    Calls Try.prog 30 #[env x u, env x v'] w fun e w' => e = .returned (.bool true) ∧ Below w.heap.size w w' := by
  have sc := fun W (hb : Below w.heap.size w W) => eqP_any u v' x.deps W (hu.up hb (Nat.le_refl _)) (hv.up hb (Nat.le_refl _))
  obtain ⟨ua, uc, rfl, _⟩ := hu
  obtain ⟨va, vc, rfl, _⟩ := hv
  obtain ⟨⟨p, r⟩, bal, st, k, key, v, s, C⟩ := x
  dsimp only [env] at sc ⊢
  obtain ⟨n, hn⟩ : ∃ n, Hid (C.length = n) := ⟨_, Lib.hid rfl⟩
  rw [hn.out] at sc ⊢
  have D0 := Lib.hid (((Below.refl w.heap.size w).alloc (Nat.le_refl _) (.cells #[.int .i64 p, .int .i64 r, .int .i64 bal, .int .i64 st, .int .i64 k, .int .i64 key, .int .i64 v, .int .i64 s, .slice ua n uc] 30)).alloc (by simp) (.cells #[.int .i64 p, .int .i64 r, .int .i64 bal, .int .i64 st, .int .i64 k, .int .i64 key, .int .i64 v, .int .i64 s, .slice va n vc] 30))
  go_enter Try.func30, Try.ntmps30
  go_wp2_with fail
  refine (eqP1 p r _).mono ?_
  rintro e w1 ⟨rfl, B⟩
  have D1 := Lib.hid (D0.out.trans (B.mono D0.out.size))
  have A1 := Lib.hid ((B.block w.heap.size (by simp; omega)).trans (holdE (heap_alloc_new w (.cells #[.int .i64 p, .int .i64 r, .int .i64 bal, .int .i64 st, .int .i64 k, .int .i64 key, .int .i64 v, .int .i64 s, .slice ua n uc] 30))))
  have O1 := Lib.hid ((B.block (w.heap.size + 1) (by simp)).trans (heap_alloc_at _ (.cells #[.int .i64 p, .int .i64 r, .int .i64 bal, .int .i64 st, .int .i64 k, .int .i64 key, .int .i64 v, .int .i64 s, .slice va n vc] 30) _ (by simp)))
  have hs1 := lt_of_heap O1.out
  obtain ⟨a0, a1, a2, a3, a4, a5, a6, a7, a8⟩ := nine_cells A1.out
  obtain ⟨o0, o1, o2, o3, o4, o5, o6, o7, o8⟩ := nine_cells O1.out
  clear D0 B
  go_wp2_with fail
  refine (eqCe k key v _).mono ?_
  rintro e w2 ⟨rfl, B⟩
  have D2 := Lib.hid (bstep D1.out B)
  have A2 := Lib.hid (bblk B (by omega) A1.out)
  have O2 := Lib.hid (bblk B (by omega) O1.out)
  clear D1 B A1 O1 a0 a1 a2 a3 a4 a5 a6 a7 a8 o0 o1 o2 o3 o4 o5 o6 o7 o8
  obtain ⟨a0, a1, a2, a3, a4, a5, a6, a7, a8⟩ := nine_cells A2.out
  obtain ⟨o0, o1, o2, o3, o4, o5, o6, o7, o8⟩ := nine_cells O2.out
  go_wp2_with fail
  refine (sc _ D2.out).mono ?_
  rintro e w3 ⟨rfl, B⟩
  have D3 := Lib.hid (bstep D2.out B)
  clear sc B D2
  go_wp2_with fail
  go_ret
  exact ⟨rfl, D3.out⟩
end Go.Proofs.Ytpckhghcjedblaa

/- The laws' comparison of slices of entries. -/
namespace Go.Proofs.Ytpckhghcjedblaa
open Go.RowKit
set_option linter.unusedVariables false

set_option maxRecDepth 100000 in
set_option maxHeartbeats 4000000 in
theorem eqEs_at (b off ca b' off' ca' : Nat) (E : List En) (U U' : Nat → Value) (w : World) (hm : E.length ≤ 2000000) (h : EnsAt w b off E U) (h' : EnsAt w b' off' E U') :
    Calls Try.prog 31 #[.slice (some ⟨b, off, none⟩) E.length ca, .slice (some ⟨b', off', none⟩) E.length ca'] w fun e w' => e = .returned (.bool true) ∧ Below w.heap.size w w' := by
  have h := Lib.hid h
  have h' := Lib.hid h'
  obtain ⟨n, hn⟩ : ∃ n, Hid (E.length = n) := ⟨_, Lib.hid rfl⟩
  rw [hn.out] at hm ⊢
  go_enter Try.func31, Try.ntmps31
  go_wp2_with fail
  go_loopw [5] (fun i wr => ∃ k : Nat, k ≤ n ∧ i = .int .i64 k ∧ Hid (Below w.heap.size w wr)) (fun i _ => n - (intOf i).toNat)
  case atStart => exact ⟨0, Nat.zero_le _, rfl, Lib.hid (Below.refl _ _)⟩
  case round =>
    obtain ⟨k, hk, rfl, hnx⟩ := hrel
    by_cases hlt : k < n
    · have hkE : k < E.length := by rw [hn.out]; exact hlt
      have hA := h.out.up hnx.out (Nat.le_refl _)
      have hA' := h'.out.up hnx.out (Nat.le_refl _)
      have hbl := hA.lt
      have hbl' := hA'.lt
      have hP := hA.at_ k hkE
      have hP' := hA'.at_ k hkE
      obtain ⟨ua, un, uc, hu⟩ : ∃ ua un uc, U k = .slice ua un uc := by obtain ⟨a, c, e, _⟩ := hP.ids; exact ⟨a, _, c, e⟩
      obtain ⟨va, vn, vc, hv⟩ : ∃ ua un uc, U' k = .slice ua un uc := by obtain ⟨a, c, e, _⟩ := hP'.ids; exact ⟨a, _, c, e⟩
      rw [hu] at hP
      rw [hv] at hP'
      have sc := fun W (hB : Below wr.heap.size wr W) => eqE_any (E.getD k en0) (.slice ua un uc) (.slice va vn vc) W (hP.ids.up hB (Nat.le_refl _)) (hP'.ids.up hB (Nat.le_refl _))
      have q0 := hP.c0
      have r0 := hP'.c0
      have q1 := hP.c1
      have r1 := hP'.c1
      have q2 := hP.c2
      have r2 := hP'.c2
      have q3 := hP.c3
      have r3 := hP'.c3
      have q4 := hP.c4
      have r4 := hP'.c4
      have q5 := hP.c5
      have r5 := hP'.c5
      have q6 := hP.c6
      have r6 := hP'.c6
      have q7 := hP.c7
      have r7 := hP'.c7
      have q8 := hP.c8
      have r8 := hP'.c8
      clear hu hv hP hP' hA hA' h h'
      unfold env at sc
      generalize E.getD k en0 = x at q0 r0 q1 r1 q2 r2 q3 r3 q4 r4 q5 r5 q6 r6 q7 r7 sc
      obtain ⟨⟨p, r⟩, bal, st, ck, ckey, cv, s, C⟩ := x
      dsimp only at q0 r0 q1 r1 q2 r2 q3 r3 q4 r4 q5 r5 q6 r6 q7 r7 sc
      go_wp2_with fail
      go_region_with (first | (go_at_call 30; refine (sc _ (by first | exact Below.refl _ _ | exact Below.drew (Below.refl _ _))).mono ?_; rintro e w1 ⟨rfl, B⟩; have D1 := Lib.hid (bstep (Below.drew hnx.out) B); clear B))
      all_goals
        go_wp2_with fail
        go_roundw
        case rel => exact ⟨k + 1, by omega, by go_num, D1⟩
        case measure => simp [intOf]; omega
    · obtain rfl : k = n := by omega
      go_wp2_with fail
      go_ret
      exact ⟨rfl, hnx.out⟩

set_option maxRecDepth 100000 in
theorem eqEs_nil (a b : Option Addr) (ca cb : Nat) (w : World) :
    Calls Try.prog 31 #[.slice a 0 ca, .slice b 0 cb] w fun e w' => e = .returned (.bool true) ∧ Below w.heap.size w w' := by
  go_enter Try.func31, Try.ntmps31
  go_wp2_with fail
  refine wp_loop_rounds 1 ?_
  rw [rounds_succ]
  go_wp2_with fail
  go_ret
  exact ⟨rfl, Below.refl _ _⟩

/-- ENTRIES ARE LIKE THEMSELVES. -/
theorem eqEs_any (u v : Value) (E : List En) (w : World) (hu : Ens w u E) (hv : Ens w v E) :
    Calls Try.prog 31 #[u, v] w fun e w' => e = .returned (.bool true) ∧ Below w.heap.size w w' := by
  obtain ⟨a, cap, rfl, h1, h2, h3⟩ := hu
  obtain ⟨a', cap', rfl, g1, g2, g3⟩ := hv
  rcases h3 with h3 | ⟨b, off, U, rfl, h4⟩
  · obtain rfl : E = [] := List.length_eq_zero_iff.1 h3
    exact eqEs_nil a a' cap cap' w
  · rcases g3 with g3 | ⟨b', off', U', rfl, g4⟩
    · obtain rfl : E = [] := List.length_eq_zero_iff.1 g3
      exact eqEs_nil _ _ _ _ w
    · exact eqEs_at b off cap b' off' cap' E U U' w h2 h4 g4
end Go.Proofs.Ytpckhghcjedblaa
