/- Texts laid together. -/
import Derived.Test.YtdikcenhakfheaaGreatDoorC12
import Derived.Test.YtdikcenhakfheaaGreatDoorC16
import Derived.Test.YtdikcenhakfheaaGreatDoorC01
import Derived.Test.YtdikcenhakfheaaGreatDoorC23
/- slices.Collect and slices.SortedFunc at the keys of a book. -/
namespace Go.Proofs.YtdikcenhakfheaaGreatDoor
open Go.RowKit Go.Shelf
set_option linter.unusedVariables false

/-- What collecting a book's keys leaves. -/
def CollP (Ks : List Pid) (w : World) (e : Ending) (w' : World) : Prop :=
  ∃ v, ∃ L : List Pid, e = .returned v ∧ L.Nodup ∧ (∀ a, a ∈ L ↔ a ∈ Ks) ∧ w'.ownsRow w.heap.size 25 2 v L.length (flatP L) ∧ Below w.heap.size w w'

theorem iappseq_any (Bm bb nn : Nat) (M : Pid → Option Value) (Ks : List Pid) (hKs : KeysOf M Ks) (hl : Ks.length ≤ 2000000) (w : World) (hBm : Bm < w.heap.size) (hm : w.cell? ⟨Bm, 0, none⟩ = some (.map (some bb))) (hown : Book w bb nn M) :
    Calls Tryz.prog 107 #[.slice none 0 0, .func (.func 105) #[] #[.pointer (some ⟨Bm, 0, none⟩)]] w (CollP Ks w) :=
  (callsIn_wide.1 (iappseq_in Fence.wide 3 trivial trivial rfl (Nat.le_refl _) Bm bb nn M Ks hKs hl w hBm hm hown)).mono fun e w' ⟨v, L, h1, h2, h3, h4, h5⟩ => ⟨v, kvs L, h1, h2.1, h2.2, h3, h5⟩

set_option maxRecDepth 100000 in
set_option maxHeartbeats 2000000 in
theorem icoll_any (Bm bb nn : Nat) (M : Pid → Option Value) (Ks : List Pid) (hKs : KeysOf M Ks) (hl : Ks.length ≤ 2000000) (w : World) (hBm : Bm < w.heap.size) (hm : w.cell? ⟨Bm, 0, none⟩ = some (.map (some bb))) (hown : Book w bb nn M) :
    Calls Tryz.prog 103 #[.func (.func 105) #[] #[.pointer (some ⟨Bm, 0, none⟩)]] w (CollP Ks w) := by
  have ap := iappseq_any Bm bb nn M Ks hKs hl w hBm hm hown
  clear hown hKs hm
  go_enter Tryz.func103, Tryz.ntmps103
  go_wp2_with fail
  refine ap.mono ?_
  rintro e w1 ⟨v, L, rfl, h1, h2, h3, B⟩
  have h1 := Lib.hid h1
  have h2 := Lib.hid h2
  have h3 := Lib.hid h3
  have B := Lib.hid B
  clear ap
  go_wp2_with fail
  go_ret
  exact ⟨v, L, rfl, h1.out, h2.out, h3.out, B.out⟩

theorem srI_asc {Q0 Q : List Pid} (h : SrI Q0 Q Q.length) : Asc Q := by
  unfold Asc
  rw [List.pairwise_iff_getElem]
  intro i j hi hj hij
  have := h.ord i j hij hj
  rw [List.getD_eq_getElem?_getD, List.getD_eq_getElem?_getD, List.getElem?_eq_getElem hi, List.getElem?_eq_getElem hj] at this
  exact this

set_option maxRecDepth 100000 in
set_option maxHeartbeats 2000000 in
theorem isorted_any (Bm bb nn : Nat) (M : Pid → Option Value) (Ks : List Pid) (hKs : KeysOf M Ks) (ha : Asc Ks) (h0 : 1 ≤ Ks.length) (hl : Ks.length ≤ 12) (w : World) (hBm : Bm < w.heap.size) (hm : w.cell? ⟨Bm, 0, none⟩ = some (.map (some bb))) (hown : Book w bb nn M) :
    Calls Tryz.prog 98 #[.func (.func 105) #[] #[.pointer (some ⟨Bm, 0, none⟩)], .func (.func 72) #[] #[]] w fun e w' => ∃ v b, e = .returned v ∧ w.heap.size ≤ b ∧ OwnP w' b v Ks ∧ Below w.heap.size w w' := by
  have ap := icoll_any Bm bb nn M Ks hKs (by omega) w hBm hm hown
  have hnd := Lib.hid hKs.1
  have ha := Lib.hid ha
  clear hown hKs hm
  go_enter Tryz.func98, Tryz.ntmps98
  go_wp2_with fail
  refine ap.mono ?_
  rintro e w1 ⟨v, L, rfl, h1, h2, h3, B⟩
  have hlen := Lib.hid (show L.length = Ks.length from ((List.perm_ext_iff_of_nodup h1 hnd.out).2 h2).length_eq)
  obtain ⟨n, hn⟩ : ∃ n, Hid (Ks.length = n) := ⟨_, Lib.hid rfl⟩
  rw [hn.out] at h0 hl hlen
  rw [hlen.out] at h3
  obtain ⟨m, hm1⟩ : ∃ m, n = m + 1 := ⟨n - 1, by omega⟩
  subst hm1
  obtain ⟨g, cap, rfl⟩ := ownsRow_succ h3
  obtain ⟨b, hb, O⟩ := OwnP.of_row h3 hlen.out.symm (by rw [hlen.out]; omega) (by simp)
  obtain ⟨cap', e', _⟩ := O.shape
  obtain rfl : g = b := by injection e' with e1; injection e1 with e1; injection e1
  have so := isort2_at g cap (m + 1) L w1 hlen.out h1 h0 hl O
  unfold SortI at so
  replace h2 := Lib.hid h2
  have hB := Lib.hid B
  clear e' h3 O ap h1 B
  go_wp2_with fail
  refine so.mono ?_
  rintro e w2 ⟨rfl, Q, hS, OQ, XX⟩
  have hq : Q.length = m + 1 := hS.perm.length_eq.trans hlen.out
  have hQ : Q = Ks := asc_ext (srI_asc (by rw [hq]; exact hS)) ha.out (fun x => (hS.perm.mem_iff).trans (h2.out x))
  rw [hQ] at OQ
  have OQ := Lib.hid OQ
  have D := Lib.hid (hB.out.trans (XX.to hB.out.size (fun c e => by omega)))
  clear hS XX so hq hQ
  go_wp2_with fail
  go_ret
  exact ⟨_, g, rfl, hb, OQ.out, D.out⟩
end Go.Proofs.YtdikcenhakfheaaGreatDoor

/- The laws' markEntryS, heldEntryS: what they leave of other memory. -/
namespace Go.Proofs.YtdikcenhakfheaaGreatDoor
open Go.RowKit
set_option linter.unusedVariables false

/-- Entries that can be marked: their blocks lie from B to E. -/
structure MkE (w : World) (B E g n : Nat) (L : Nat → Nat × Nat × Nat) : Prop where
  blk : ∃ cur t, w.heap[g]? = some (.cells cur t (0, 0)) ∧ n * 9 ≤ cur.size ∧ ∀ i, i < n → cur[i * 9 + 8]? = some (.slice (some ⟨(L i).1, 0, none⟩) (L i).2.1 (L i).2.2)
  g0 : B ≤ g
  g1 : g < E
  deps : ∀ i, i < n → (L i).1 ≠ g ∧ B ≤ (L i).1 ∧ (L i).1 < E ∧ (L i).2.1 ≤ 2000000 ∧ Sz w (L i).1 (2 * (L i).2.1)
section
variable {w w' : World} {B E g n : Nat} {L : Nat → Nat × Nat × Nat}
theorem MkE.up (h : MkE w B E g n L) (hb : Below w.heap.size w w') : MkE w' B E g n L := by
  obtain ⟨cur, t, h1, h2, h3⟩ := h.blk
  refine ⟨⟨cur, t, (hb.block g (lt_of_heap h1)).trans h1, h2, h3⟩, h.g0, h.g1, fun i hi => ?_⟩
  obtain ⟨a1, a2, a3, a4, cur', t', a5, a6⟩ := h.deps i hi
  exact ⟨a1, a2, a3, a4, cur', t', (hb.block _ (lt_of_heap a5)).trans a5, a6⟩
theorem MkE.sz (h : MkE w B E g n L) : Sz w g (n * 9) := by obtain ⟨cur, t, h1, h2, _⟩ := h.blk; exact ⟨cur, t, h1, h2⟩
theorem MkE.head (h : MkE w B E g n L) {i : Nat} (hi : i < n) : w.cell? ⟨g, i * 9 + 8, none⟩ = some (.slice (some ⟨(L i).1, 0, none⟩) (L i).2.1 (L i).2.2) := by
  obtain ⟨cur, t, h1, _, h3⟩ := h.blk; rw [cell_of_cells h1]; exact h3 i hi
theorem MkE.setg (h : MkE w B E g n L) (k : Nat) {j : Nat} (hj : j < 8) (v : Value) : MkE (w.setCell ⟨g, k * 9 + j, none⟩ v) B E g n L := by
  obtain ⟨cur, t, h1, h2, h3⟩ := h.blk
  refine ⟨⟨_, t, heap_setCell_same w g (k * 9 + j) cur t v h1, by simpa using h2, fun i hi => ?_⟩, h.g0, h.g1, fun i hi => ?_⟩
  · rw [Array.getElem?_setIfInBounds, if_neg (by omega)]; exact h3 i hi
  · obtain ⟨a1, a2, a3, a4, a5⟩ := h.deps i hi; exact ⟨a1, a2, a3, a4, a5.set _ _ _⟩
theorem MkE.marked (h : MkE w B E g n L) {i : Nat} (hi : i < n) (hr : Rm w w') (he : Exc (fun c => c = (L i).1) w w') : MkE w' B E g n L := by
  obtain ⟨cur, t, h1, h2, h3⟩ := h.blk
  refine ⟨⟨cur, t, he.at (fun e => (h.deps i hi).1 e.symm) h1, h2, h3⟩, h.g0, h.g1, fun j hj => ?_⟩
  obtain ⟨a1, a2, a3, a4, a5⟩ := h.deps j hj
  exact ⟨a1, a2, a3, a4, hr _ _ a5⟩
end
theorem EnO.mk {w : World} {B : Nat} {v : Value} {N : List En} (h : EnO w B v N) : ∃ g cap L, v = .slice (some ⟨g, 0, none⟩) N.length cap ∧ N.length ≤ 2000000 ∧ N.length ≤ cap ∧ MkE w B w.heap.size g N.length L := by
  obtain ⟨g, cap, cur, t, rfl, h0, hg, h1, h2, h3⟩ := h
  have hL : ∀ i, ∃ l : Nat × Nat × Nat, i < N.length → cur[i * 9 + 8]? = some (.slice (some ⟨l.1, 0, none⟩) l.2.1 l.2.2) ∧ l.1 ≠ g ∧ B ≤ l.1 ∧ l.1 < w.heap.size ∧ l.2.1 ≤ 2000000 ∧ Sz w l.1 (2 * l.2.1) := fun i => by
    by_cases hi : i < N.length
    · obtain ⟨b, u, q1, q2, hc, ho⟩ := h3 i hi
      have hl := ho.cap_le
      obtain ⟨uc, rfl, _⟩ := ho.shape
      exact ⟨(b, (N.getD i en0).deps.length, uc), fun _ => ⟨hc 8 (by omega), q2, q1, ho.lt, hl, ho.sz⟩⟩
    · exact ⟨(0, 0, 0), fun hh => absurd hh hi⟩
  refine ⟨g, cap, fun i => Classical.choose (hL i), rfl, h2, h1, ⟨⟨cur, t, hg, ?_, fun i hi => (Classical.choose_spec (hL i) hi).1⟩, h0, lt_of_heap hg, fun i hi => (Classical.choose_spec (hL i) hi).2⟩⟩
  by_cases hz : N.length = 0
  · omega
  · obtain ⟨b, u, _, _, hc, _⟩ := h3 (N.length - 1) (by omega)
    have c8 := hc 8 (by omega)
    rcases Nat.lt_or_ge ((N.length - 1) * 9 + 8) cur.size with hh | hh
    · omega
    · rw [Array.getElem?_eq_none hh] at c8; exact absurd c8 (by simp [enc9])

set_option maxRecDepth 100000 in
set_option maxHeartbeats 4000000 in
/-- MARKS IN ENTRIES: all else stays. -/
theorem markEs_le (B E g n cap : Nat) (L : Nat → Nat × Nat × Nat) (w : World) (hn : n ≤ 2000000) (h : MkE w B E g n L) :
    Calls Tryz.prog 26 #[.slice (some ⟨g, 0, none⟩) n cap, .int .i64 1] w fun e w' => ∃ z : Int, e = .returned (.int .i64 z) ∧ 0 ≤ z ∧ z ≤ 8000016000001 ∧ Exc (fun c => B ≤ c ∧ c < E) w w' := by
  have h := Lib.hid h
  have hg0 := h.out.g0
  have hg1 := h.out.g1
  go_enter Tryz.func26, Tryz.ntmps26
  go_wp2_with fail
  go_loopw [1, 5] (fun q i wr => ∃ (k : Nat) (z : Int), k ≤ n ∧ i = .int .i64 k ∧ q = .int .i64 z ∧ 0 ≤ z ∧ z ≤ 1 + 4000008 * k ∧ Hid (MkE wr B E g n L) ∧ Hid (Exc (fun c => B ≤ c ∧ c < E) w wr)) (fun _ i _ => n - (intOf i).toNat)
  case atStart => exact ⟨0, 1, Nat.zero_le _, rfl, rfl, by omega, by omega, h, Lib.hid (Exc.refl _ _)⟩
  case round =>
    clear h
    obtain ⟨k, z, hk, rfl, rfl, hz0, hz1, hM, hE⟩ := hrel
    by_cases hlt : k < n
    · have hS := hM.out.sz
      obtain ⟨y0, c0⟩ := hS.cell (j := k * 9) (by omega)
      obtain ⟨y1, c1⟩ := hS.cell (j := k * 9 + 1) (by omega)
      obtain ⟨y2, c2⟩ := hS.cell (j := k * 9 + 2) (by omega)
      obtain ⟨y3, c3⟩ := hS.cell (j := k * 9 + 3) (by omega)
      obtain ⟨y4, c4⟩ := hS.cell (j := k * 9 + 4) (by omega)
      obtain ⟨y5, c5⟩ := hS.cell (j := k * 9 + 5) (by omega)
      obtain ⟨y6, c6⟩ := hS.cell (j := k * 9 + 6) (by omega)
      obtain ⟨y7, c7⟩ := hS.cell (j := k * 9 + 7) (by omega)
      have c8 := hM.out.head hlt
      have f0 := hS.free (k * 9)
      have f1 := hS.free (k * 9 + 1)
      have f2 := hS.free (k * 9 + 2)
      have f3 := hS.free (k * 9 + 3)
      have f4 := hS.free (k * 9 + 4)
      have f5 := hS.free (k * 9 + 5)
      have f6 := hS.free (k * 9 + 6)
      have f7 := hS.free (k * 9 + 7)
      have hs := hS.lt
      have hM2 := ((((((((hM.out.setg k (j := 0) (by omega) (.int .i64 (z))).setg k (j := 1) (by omega) (.int .i64 (z + 1))).setg k (j := 2) (by omega) (.int .i64 (z + 1 + 1))).setg k (j := 3) (by omega) (.int .i64 (z + 1 + 1 + 1))).setg k (j := 4) (by omega) (.int .i64 (z + 1 + 1 + 1 + 1))).setg k (j := 5) (by omega) (.int .i64 (z + 1 + 1 + 1 + 1 + 1))).setg k (j := 6) (by omega) (.int .i64 (z + 1 + 1 + 1 + 1 + 1 + 1))).setg k (j := 7) (by omega) (.int .i64 (z + 1 + 1 + 1 + 1 + 1 + 1 + 1)))
      have hE2 := ((((((((hE.out.set (b := g) (.inl ⟨hg0, hg1⟩) (k * 9) (.int .i64 (z))).set (b := g) (.inl ⟨hg0, hg1⟩) (k * 9 + 1) (.int .i64 (z + 1))).set (b := g) (.inl ⟨hg0, hg1⟩) (k * 9 + 2) (.int .i64 (z + 1 + 1))).set (b := g) (.inl ⟨hg0, hg1⟩) (k * 9 + 3) (.int .i64 (z + 1 + 1 + 1))).set (b := g) (.inl ⟨hg0, hg1⟩) (k * 9 + 4) (.int .i64 (z + 1 + 1 + 1 + 1))).set (b := g) (.inl ⟨hg0, hg1⟩) (k * 9 + 5) (.int .i64 (z + 1 + 1 + 1 + 1 + 1))).set (b := g) (.inl ⟨hg0, hg1⟩) (k * 9 + 6) (.int .i64 (z + 1 + 1 + 1 + 1 + 1 + 1))).set (b := g) (.inl ⟨hg0, hg1⟩) (k * 9 + 7) (.int .i64 (z + 1 + 1 + 1 + 1 + 1 + 1 + 1)))
      rw [Nat.add_zero] at hM2
      have hM2 := Lib.hid hM2
      have hE2 := Lib.hid hE2
      obtain ⟨d1, d2, d3, d4, d5⟩ := hM2.out.deps k hlt
      have mz := fun k0 => markZ_any _ _ (L k).2.2 k0 _ d5 d4
      obtain ⟨⟨lb, ln, lc⟩, hl⟩ : ∃ x, Hid (L k = x) := ⟨_, Lib.hid rfl⟩
      rw [hl.out] at c8 mz d2 d3 d4
      dsimp only at c8 mz d2 d3 d4
      clear hM hE d5 d1
      go_wp2_with fail
      refine (mz _ (by omega) (by omega)).mono ?_
      rintro e w3 ⟨rfl, hR3, hE3⟩
      have hM3 := Lib.hid (hM2.out.marked hlt hR3 (by rw [hl.out]; exact hE3))
      have hE4 := Lib.hid (hE2.out.trans hE3 (fun b _ e => by subst e; exact ⟨d2, d3⟩))
      clear hM2 hE2 hR3 hE3 mz c0 c1 c2 c3 c4 c5 c6 c7 c8 f0 f1 f2 f3 f4 f5 f6 f7
      go_wp2_with fail
      refine ⟨⟨k + 1, z + 1 + 1 + 1 + 1 + 1 + 1 + 1 + 1 + 2 * ln, by omega, by go_num, by go_num, by omega, by omega, hM3, hE4⟩, ?_⟩
      simp [intOf]; omega
    · obtain rfl : k = n := by omega
      go_wp2_with fail
      go_ret
      exact ⟨z, rfl, hz0, by omega, hE.out⟩
theorem markEs_any (B E g n cap : Nat) (L : Nat → Nat × Nat × Nat) (w : World) (hn : n ≤ 2000000) (h : MkE w B E g n L) :
    Calls Tryz.prog 26 #[.slice (some ⟨g, 0, none⟩) n cap, .int .i64 1] w fun e w' => ∃ z : Int, e = .returned (.int .i64 z) ∧ 0 ≤ z ∧ Exc (fun c => B ≤ c ∧ c < E) w w' := by
  refine (markEs_le B E g n cap L w hn h).mono ?_
  rintro e w' ⟨z, rfl, h0, _, hx⟩
  exact ⟨z, rfl, h0, hx⟩
end Go.Proofs.YtdikcenhakfheaaGreatDoor

/- A result's marks: plain facts, and what a mark leaves in memory. -/
namespace Go.Proofs.YtdikcenhakfheaaGreatDoor
open Go.RowKit
set_option linter.unusedVariables false

/-- Which mark an entry begins with. -/
def ks (X : Nat → En) (z0 : Int) : Nat → Int
  | 0 => z0
  | k + 1 => ks X z0 k + 8 + 2 * ((X k).deps.length : Int)
theorem ks_range (X : Nat → En) (z0 : Int) : ∀ k, (∀ i, i < k → (X i).deps.length ≤ 12) → z0 ≤ ks X z0 k ∧ ks X z0 k ≤ z0 + 32 * k
  | 0, _ => by simp [ks]
  | k + 1, h => by
    have h1 := ks_range X z0 k (fun i hi => h i (by omega))
    have h2 := h k (Nat.lt_succ_self k)
    simp only [ks]
    omega
/-- An entry that is marked from z on. -/
def MkE1 (z : Int) (x : En) : Prop := x.id = (z, z + 1) ∧ x.bal = z + 1 + 1 ∧ x.st = z + 1 + 1 + 1 ∧ x.k = z + 1 + 1 + 1 + 1 ∧ x.key = z + 1 + 1 + 1 + 1 + 1 ∧ x.v = z + 1 + 1 + 1 + 1 + 1 + 1 ∧ x.seq = z + 1 + 1 + 1 + 1 + 1 + 1 + 1 ∧ MarkedP (z + 1 + 1 + 1 + 1 + 1 + 1 + 1 + 1) x.deps
/-- One entry in place of another. -/
def upX (X : Nat → En) (k : Nat) (x : En) : Nat → En := fun i => if i = k then x else X i
theorem upX_at (X : Nat → En) (k : Nat) (x : En) : upX X k x k = x := if_pos rfl
theorem upX_ne (X : Nat → En) {k i : Nat} (x : En) (h : i ≠ k) : upX X k x i = X i := if_neg h
/-- One number of an entry. -/
def fldX (x : En) (j : Nat) (z : Int) : En :=
  match j with
  | 0 => { x with id := (z, x.id.2) }
  | 1 => { x with id := (x.id.1, z) }
  | 2 => { x with bal := z }
  | 3 => { x with st := z }
  | 4 => { x with k := z }
  | 5 => { x with key := z }
  | 6 => { x with v := z }
  | 7 => { x with seq := z }
  | _ => x
theorem fldX_deps (x : En) (j : Nat) (z : Int) : (fldX x j z).deps = x.deps := by unfold fldX; split <;> rfl
theorem fldX_cells (x : En) (u : Value) {j : Nat} (hj : j < 8) (z : Int) {i : Nat} (hi : i < 9) : (enc9 (fldX x j z) u)[i]? = if i = j then some (.int .i64 z) else (enc9 x u)[i]? := by
  rcases (show j = 0 ∨ j = 1 ∨ j = 2 ∨ j = 3 ∨ j = 4 ∨ j = 5 ∨ j = 6 ∨ j = 7 by omega) with rfl | rfl | rfl | rfl | rfl | rfl | rfl | rfl <;>
  rcases (show i = 0 ∨ i = 1 ∨ i = 2 ∨ i = 3 ∨ i = 4 ∨ i = 5 ∨ i = 6 ∨ i = 7 ∨ i = 8 by omega) with rfl | rfl | rfl | rfl | rfl | rfl | rfl | rfl | rfl <;> rfl
section
variable {w w' : World} {B T g n : Nat} {X : Nat → En} {U : Nat → Value} {P Q : Nat → Nat}
theorem LgAt.set1 (h : LgAt w B T g n X U P Q) {k : Nat} (hk : k < n) {j : Nat} (hj : j < 8) (z : Int) : LgAt (w.setCell ⟨g, k * 9 + j, none⟩ (.int .i64 z)) B T g n (upX X k (fldX (X k) j z)) U P Q := by
  obtain ⟨cur, t, h1, h2, h3⟩ := h.blk
  refine ⟨⟨_, t, heap_setCell_same w g (k * 9 + j) cur t _ h1, by simpa using h2, fun i hi j' hj' => ?_⟩, h.g0, h.g1, by rw [World.size_setCell]; exact h.top, fun i hi => ?_, h.ord⟩
  · rw [Array.getElem?_setIfInBounds]
    by_cases e : i = k
    · subst e
      rw [upX_at, fldX_cells _ _ hj _ hj']
      by_cases e : j' = j
      · subst e
        rw [if_pos rfl, if_pos rfl, if_pos (by omega)]
      · rw [if_neg (by omega), if_neg e]; exact h3 i hi j' hj'
    · rw [upX_ne _ _ e, if_neg (by omega)]; exact h3 i hi j' hj'
  · obtain ⟨a1, a2, a3, a4⟩ := h.deps i hi
    have e : (upX X k (fldX (X k) j z) i).deps = (X i).deps := by
      by_cases e : i = k
      · subst e; rw [upX_at, fldX_deps]
      · rw [upX_ne _ _ e]
    rw [e]
    exact ⟨a1.keep (fun b b1 b2 _ => heap_setCell_other w ⟨g, k * 9 + j, none⟩ b _ (fun e => by subst e; exact a4 b1 b2)), a2, a3, a4⟩
theorem LgAt.congr {X' : Nat → En} (h : LgAt w B T g n X U P Q) (e : ∀ i, X i = X' i) : LgAt w B T g n X' U P Q := by
  have : X = X' := funext e
  rw [← this]; exact h
theorem LgAt.mark8 (h : LgAt w B T g n X U P Q) {k : Nat} (hk : k < n) (z0 z1 z2 z3 z4 z5 z6 z7 : Int) :
    LgAt ((((((((w.setCell ⟨g, k * 9, none⟩ (.int .i64 z0)).setCell ⟨g, k * 9 + 1, none⟩ (.int .i64 z1)).setCell ⟨g, k * 9 + 2, none⟩ (.int .i64 z2)).setCell ⟨g, k * 9 + 3, none⟩ (.int .i64 z3)).setCell ⟨g, k * 9 + 4, none⟩ (.int .i64 z4)).setCell ⟨g, k * 9 + 5, none⟩ (.int .i64 z5)).setCell ⟨g, k * 9 + 6, none⟩ (.int .i64 z6)).setCell ⟨g, k * 9 + 7, none⟩ (.int .i64 z7)) B T g n (upX X k ⟨(z0, z1), z2, z3, z4, z5, z6, z7, (X k).deps⟩) U P Q := by
  have a := (((((((h.set1 hk (j := 0) (by omega) z0).set1 hk (j := 1) (by omega) z1).set1 hk (j := 2) (by omega) z2).set1 hk (j := 3) (by omega) z3).set1 hk (j := 4) (by omega) z4).set1 hk (j := 5) (by omega) z5).set1 hk (j := 6) (by omega) z6).set1 hk (j := 7) (by omega) z7
  rw [Nat.add_zero] at a
  refine a.congr fun i => ?_
  by_cases e : i = k
  · subst e; simp only [upX_at]; rfl
  · simp only [upX_ne _ _ e]
theorem LgAt.markD (h : LgAt w B T g n X U P Q) {k : Nat} (hk : k < n) {M : List Pid} (hM : OwZ w' (P k) (Q k) (U k) M) (he : Exc (fun c => P k ≤ c ∧ c < Q k) w w') : LgAt w' B T g n (upX X k { X k with deps := M }) U P Q := by
  obtain ⟨cur, t, h1, h2, h3⟩ := h.blk
  obtain ⟨_, b2, b3, b4⟩ := h.deps k hk
  refine ⟨⟨cur, t, he.at (fun e => b4 e.1 e.2) h1, h2, fun i hi j hj => ?_⟩, h.g0, h.g1, Nat.le_trans h.top he.size, fun i hi => ?_, h.ord⟩
  · by_cases e : i = k
    · subst e; rw [upX_at]; exact h3 i hi j hj
    · rw [upX_ne _ _ e]; exact h3 i hi j hj
  · obtain ⟨a1, a2, a3, a4⟩ := h.deps i hi
    by_cases e : i = k
    · subst e; rw [upX_at]; exact ⟨hM, a2, a3, a4⟩
    · rw [upX_ne _ _ e]
      refine ⟨a1.apart he (fun b c1 c2 => fun c => ?_), a2, a3, a4⟩
      rcases Nat.lt_or_gt_of_ne e with hl | hl
      · have := h.ord i k hl hk; omega
      · have := h.ord k i hl hi; omega
theorem LgAt.cells (h : LgAt w B T g n X U P Q) {k : Nat} (hk : k < n) :
    (w.cell? ⟨g, k * 9, none⟩ = some (.int .i64 (X k).id.1) ∧ w.cell? ⟨g, k * 9 + 1, none⟩ = some (.int .i64 (X k).id.2) ∧ w.cell? ⟨g, k * 9 + 2, none⟩ = some (.int .i64 (X k).bal) ∧ w.cell? ⟨g, k * 9 + 3, none⟩ = some (.int .i64 (X k).st) ∧ w.cell? ⟨g, k * 9 + 4, none⟩ = some (.int .i64 (X k).k) ∧ w.cell? ⟨g, k * 9 + 5, none⟩ = some (.int .i64 (X k).key) ∧ w.cell? ⟨g, k * 9 + 6, none⟩ = some (.int .i64 (X k).v) ∧ w.cell? ⟨g, k * 9 + 7, none⟩ = some (.int .i64 (X k).seq) ∧ w.cell? ⟨g, k * 9 + 8, none⟩ = some (U k)) ∧ ∀ m, w.frozen? ⟨g, m, none⟩ = false := by
  obtain ⟨cur, t, h1, h2, h3⟩ := h.blk
  have c := h3 k hk
  refine ⟨⟨?_, ?_, ?_, ?_, ?_, ?_, ?_, ?_, ?_⟩, fun m => by simp [World.frozen?, h1]⟩ <;> rw [cell_of_cells h1]
  · exact c 0 (by omega)
  · exact c 1 (by omega)
  · exact c 2 (by omega)
  · exact c 3 (by omega)
  · exact c 4 (by omega)
  · exact c 5 (by omega)
  · exact c 6 (by omega)
  · exact c 7 (by omega)
  · exact c 8 (by omega)
theorem LgAt.lt (h : LgAt w B T g n X U P Q) : g < w.heap.size := Nat.lt_of_lt_of_le h.g1 h.top
end
/-- A result that is marked from z0 on. -/
def LgM (w : World) (B T : Nat) (v : Value) (N : List En) (z0 : Int) : Prop := ∃ g cap U P Q X, v = .slice (some ⟨g, 0, none⟩) N.length cap ∧ N.length ≤ cap ∧ LgAt w B T g N.length X U P Q ∧
  ∀ j, j < N.length → (X j).deps.length = (N.getD j en0).deps.length ∧ MkE1 (ks (fun i => N.getD i en0) z0 j) (X j)
theorem LgM.apart {w w' : World} {B T : Nat} {v : Value} {N : List En} {z0 : Int} {D : Nat → Prop} (h : LgM w B T v N z0) (he : Exc D w w') (hn : ∀ b, B ≤ b → b < T → ¬ D b) : LgM w' B T v N z0 := by
  obtain ⟨g, cap, U, P, Q, X, h1, h2, h3, h4⟩ := h
  exact ⟨g, cap, U, P, Q, X, h1, h2, h3.apart he hn, h4⟩
theorem LgM.up {w w' : World} {B T : Nat} {v : Value} {N : List En} {z0 : Int} (h : LgM w B T v N z0) (hb : Below w.heap.size w w') : LgM w' B T v N z0 := h.apart (D := fun _ => False) (Exc.of hb) (fun _ _ _ h => h)
/-- The mark behind a result. -/
def kN (N : List En) (z0 : Int) : Int := ks (fun i => N.getD i en0) z0 N.length
end Go.Proofs.YtdikcenhakfheaaGreatDoor

/- The laws' markEntryS and heldEntryS at a result. -/
namespace Go.Proofs.YtdikcenhakfheaaGreatDoor
open Go.RowKit
set_option linter.unusedVariables false

set_option maxRecDepth 100000 in
set_option maxHeartbeats 4000000 in
/-- MARKS IN A RESULT. -/
theorem markL_any (B T : Nat) (v : Value) (N : List En) (z0 : Int) (w : World) (h : LogO w B T v N) (hn : N.length ≤ 12) (hd : ∀ i, i < N.length → (N.getD i en0).deps.length ≤ 12) (hz0 : 0 ≤ z0) (hz1 : z0 ≤ 1000) :
    Calls Tryz.prog 26 #[v, .int .i64 z0] w fun e w' => e = .returned (.int .i64 (kN N z0)) ∧ LgM w' B T v N z0 ∧ Exc (fun c => B ≤ c ∧ c < T) w w' := by
  obtain ⟨g, cap, U, P, Q, rfl, hc, _, hA⟩ := h
  have hU : ∀ i, i < N.length → ∃ ua un uc, U i = .slice ua un uc := fun i hi => by obtain ⟨a, c, e, _⟩ := (hA.deps i hi).1.read; exact ⟨a, _, c, e⟩
  have hU := Lib.hid hU
  have hc := Lib.hid hc
  have hg0 := hA.g0
  have hg1 := hA.g1
  have hA := Lib.hid hA
  have hdd := Lib.hid hd
  have hdl := Lib.hid (fun k (hk : k ≤ N.length) => ks_range (fun i => N.getD i en0) z0 k (fun i hi => hdd.out i (by omega)))
  clear hd
  unfold LgM kN
  obtain ⟨n, hnn⟩ : ∃ n, Hid (N.length = n) := ⟨_, Lib.hid rfl⟩
  obtain ⟨X, hX⟩ : ∃ X : Nat → En, Hid (X = fun i => N.getD i en0) := ⟨_, Lib.hid rfl⟩
  have hX2 : Hid (∀ i, (N.getD i en0).deps.length = (X i).deps.length) := Lib.hid fun i => by rw [hX.out]
  rw [← hX.out, hnn.out] at hA hdl
  rw [hnn.out] at hn hdd hU hc ⊢
  rw [← hX.out]
  clear hX
  go_enter Tryz.func26, Tryz.ntmps26
  go_wp2_with fail
  go_loopw [1, 5] (fun q i wr => ∃ (k : Nat) (Y : Nat → En), k ≤ n ∧ i = .int .i64 k ∧ q = .int .i64 (ks X z0 k) ∧ Hid (LgAt wr B T g n Y U P Q) ∧ Hid ((∀ j, (Y j).deps.length = (X j).deps.length) ∧ ∀ j, j < k → MkE1 (ks X z0 j) (Y j)) ∧ Hid (Exc (fun c => B ≤ c ∧ c < T) w wr)) (fun _ i _ => n - (intOf i).toNat)
  case atStart => exact ⟨0, X, Nat.zero_le _, rfl, rfl, hA, Lib.hid ⟨fun _ => rfl, fun j hj => absurd hj (Nat.not_lt_zero _)⟩, Lib.hid (Exc.refl _ _)⟩
  case round =>
    clear hA
    obtain ⟨k, Y, hk, rfl, rfl, hM, hS, hE⟩ := hrel
    have hzr := hdl.out k (by omega)
    have hz9 : Hid (ks X z0 (k + 1) = ks X z0 k + 8 + 2 * ((X k).deps.length : Int)) := Lib.hid rfl
    obtain ⟨z, hz⟩ : ∃ z, Hid (ks X z0 k = z) := ⟨_, Lib.hid rfl⟩
    rw [hz.out] at hzr hz9 ⊢
    by_cases hlt : k < n
    · obtain ⟨⟨c0, c1, c2, c3, c4, c5, c6, c7, c8⟩, hf⟩ := hM.out.cells hlt
      obtain ⟨ua, un, uc, hu⟩ := hU.out k hlt
      rw [hu] at c8
      have f0 := hf (k * 9)
      have f1 := hf (k * 9 + 1)
      have f2 := hf (k * 9 + 2)
      have f3 := hf (k * 9 + 3)
      have f4 := hf (k * 9 + 4)
      have f5 := hf (k * 9 + 5)
      have f6 := hf (k * 9 + 6)
      have f7 := hf (k * 9 + 7)
      clear hf
      have hs := hM.out.lt
      have hM2 := Lib.hid (hM.out.mark8 hlt z (z + 1) (z + 1 + 1) (z + 1 + 1 + 1) (z + 1 + 1 + 1 + 1) (z + 1 + 1 + 1 + 1 + 1) (z + 1 + 1 + 1 + 1 + 1 + 1) (z + 1 + 1 + 1 + 1 + 1 + 1 + 1))
      have hE2 := ((((((((hE.out.set (b := g) (.inl ⟨hg0, hg1⟩) (k * 9) (.int .i64 (z))).set (b := g) (.inl ⟨hg0, hg1⟩) (k * 9 + 1) (.int .i64 (z + 1))).set (b := g) (.inl ⟨hg0, hg1⟩) (k * 9 + 2) (.int .i64 (z + 1 + 1))).set (b := g) (.inl ⟨hg0, hg1⟩) (k * 9 + 3) (.int .i64 (z + 1 + 1 + 1))).set (b := g) (.inl ⟨hg0, hg1⟩) (k * 9 + 4) (.int .i64 (z + 1 + 1 + 1 + 1))).set (b := g) (.inl ⟨hg0, hg1⟩) (k * 9 + 5) (.int .i64 (z + 1 + 1 + 1 + 1 + 1))).set (b := g) (.inl ⟨hg0, hg1⟩) (k * 9 + 6) (.int .i64 (z + 1 + 1 + 1 + 1 + 1 + 1))).set (b := g) (.inl ⟨hg0, hg1⟩) (k * 9 + 7) (.int .i64 (z + 1 + 1 + 1 + 1 + 1 + 1 + 1)))
      have hE2 := Lib.hid hE2
      obtain ⟨d1, d2, d3, d4⟩ := hM2.out.deps k hlt
      rw [upX_at, hu] at d1
      dsimp only at d1
      have mz := fun k0 => markI_z (P k) (Q k) (.slice ua un uc) (Y k).deps k0 _ d1
      have hl9 : Hid ((Y k).deps.length = (X k).deps.length) := Lib.hid (hS.out.1 k)
      have hl12 : (X k).deps.length ≤ 12 := by have := hdd.out k hlt; rw [hX2.out] at this; exact this
      rw [hl9.out] at mz
      have hu := Lib.hid hu
      clear hM hE d1
      obtain ⟨ln, hln⟩ : ∃ m, Hid ((X k).deps.length = m) := ⟨_, Lib.hid rfl⟩
      rw [hln.out] at mz hz9 hl12
      go_wp2_with fail
      refine (mz _ (by omega) (by omega)).mono ?_
      rintro e w3 ⟨rfl, M, hMl, hMk, hO, hE3⟩
      have hM3 := Lib.hid (hM2.out.markD (k := k) hlt (by rw [hu.out]; exact hO) hE3)
      have hE4 := Lib.hid (hE2.out.trans hE3 (fun b _ e => ⟨Nat.le_trans d2 e.1, Nat.lt_of_lt_of_le e.2 d3⟩))
      have hS3 := Lib.hid (show (∀ j, (upX (upX Y k ⟨(z, z + 1), z + 1 + 1, z + 1 + 1 + 1, z + 1 + 1 + 1 + 1, z + 1 + 1 + 1 + 1 + 1, z + 1 + 1 + 1 + 1 + 1 + 1, z + 1 + 1 + 1 + 1 + 1 + 1 + 1, (Y k).deps⟩) k { (upX Y k ⟨(z, z + 1), z + 1 + 1, z + 1 + 1 + 1, z + 1 + 1 + 1 + 1, z + 1 + 1 + 1 + 1 + 1, z + 1 + 1 + 1 + 1 + 1 + 1, z + 1 + 1 + 1 + 1 + 1 + 1 + 1, (Y k).deps⟩ k) with deps := M } j).deps.length = (X j).deps.length) ∧ ∀ j, j < k + 1 → MkE1 (ks X z0 j) (upX (upX Y k ⟨(z, z + 1), z + 1 + 1, z + 1 + 1 + 1, z + 1 + 1 + 1 + 1, z + 1 + 1 + 1 + 1 + 1, z + 1 + 1 + 1 + 1 + 1 + 1, z + 1 + 1 + 1 + 1 + 1 + 1 + 1, (Y k).deps⟩) k { (upX Y k ⟨(z, z + 1), z + 1 + 1, z + 1 + 1 + 1, z + 1 + 1 + 1 + 1, z + 1 + 1 + 1 + 1 + 1, z + 1 + 1 + 1 + 1 + 1 + 1, z + 1 + 1 + 1 + 1 + 1 + 1 + 1, (Y k).deps⟩ k) with deps := M } j) from by
        refine ⟨fun j => ?_, fun j hj => ?_⟩
        · by_cases e : j = k
          · subst e; rw [upX_at]; exact hMl.trans hln.out.symm
          · rw [upX_ne _ _ e, upX_ne _ _ e]; exact hS.out.1 j
        · by_cases e : j = k
          · subst e; rw [upX_at, upX_at, hz.out]; exact ⟨rfl, rfl, rfl, rfl, rfl, rfl, rfl, hMk⟩
          · rw [upX_ne _ _ e, upX_ne _ _ e]; exact hS.out.2 j (by omega))
      clear hM2 hE2 hE3 mz hO hMk hMl hS c0 c1 c2 c3 c4 c5 c6 c7 c8 f0 f1 f2 f3 f4 f5 f6 f7
      go_wp2_with fail
      go_roundw
      case rel => exact ⟨k + 1, _, by omega, by go_num, by rw [hz9.out]; go_num, hM3, hS3, hE4⟩
      case measure => simp [intOf]; omega
    · obtain rfl : k = n := by omega
      go_wp2_with fail
      go_ret
      exact ⟨by rw [hz.out]; rfl, ⟨g, cap, U, P, Q, Y, rfl, hc.out, hM.out, fun j hj => ⟨by rw [hX2.out]; exact hS.out.1 j, hS.out.2 j hj⟩⟩, hE.out⟩

set_option maxRecDepth 100000 in
set_option maxHeartbeats 4000000 in
/-- THE MARKS OF A RESULT ARE THERE. -/
theorem heldL_any (B T : Nat) (v : Value) (N : List En) (z0 : Int) (w : World) (h : LgM w B T v N z0) (hn : N.length ≤ 12) (hd : ∀ i, i < N.length → (N.getD i en0).deps.length ≤ 12) (hz0 : 0 ≤ z0) (hz1 : z0 ≤ 1000) :
    Calls Tryz.prog 28 #[v, .int .i64 z0] w fun e w' => e = .returned (.int .i64 (kN N z0)) ∧ Below w.heap.size w w' := by
  obtain ⟨g, cap, U, P, Q, Y, rfl, hc, hA, hS⟩ := h
  have hdl := Lib.hid (fun k (hk : k ≤ N.length) => ks_range (fun i => N.getD i en0) z0 k (fun i hi => hd i (by omega)))
  have hU := Lib.hid (fun i (hi : i < N.length) => show ∃ ua un uc, U i = .slice ua un uc from by obtain ⟨a, c, e, _⟩ := (hA.deps i hi).1.read; exact ⟨a, _, c, e⟩)
  have hA := Lib.hid hA
  have hS := Lib.hid hS
  have hdd := Lib.hid hd
  clear hd hc
  unfold kN
  obtain ⟨n, hnn⟩ : ∃ n, Hid (N.length = n) := ⟨_, Lib.hid rfl⟩
  obtain ⟨X, hX⟩ : ∃ X : Nat → En, Hid (X = fun i => N.getD i en0) := ⟨_, Lib.hid rfl⟩
  have hX2 : Hid (∀ i, (N.getD i en0).deps.length = (X i).deps.length) := Lib.hid fun i => by rw [hX.out]
  rw [← hX.out, hnn.out] at hdl hS
  rw [hnn.out] at hn hdd hU hA ⊢
  rw [← hX.out]
  clear hX
  go_enter Tryz.func28, Tryz.ntmps28
  go_wp2_with fail
  go_loopw [1, 5] (fun q i wr => ∃ (k : Nat), k ≤ n ∧ i = .int .i64 k ∧ q = .int .i64 (ks X z0 k) ∧ Hid (Below w.heap.size w wr)) (fun _ i _ => n - (intOf i).toNat)
  case atStart => exact ⟨0, Nat.zero_le _, rfl, rfl, Lib.hid (Below.refl _ _)⟩
  case round =>
    obtain ⟨k, hk, rfl, rfl, hB⟩ := hrel
    have hzr := hdl.out k (by omega)
    have hz9 : Hid (ks X z0 (k + 1) = ks X z0 k + 8 + 2 * ((X k).deps.length : Int)) := Lib.hid rfl
    obtain ⟨z, hz⟩ : ∃ z, Hid (ks X z0 k = z) := ⟨_, Lib.hid rfl⟩
    by_cases hlt : k < n
    · have hAk := hA.out.apart (D := fun c => w.heap.size ≤ c) (w' := wr) ⟨hB.out.os, hB.out.tape, hB.out.output, hB.out.size, fun b hb _ => hB.out.block b hb⟩ (fun b _ hb hh => by have := hA.out.top; omega)
      obtain ⟨⟨c0, c1, c2, c3, c4, c5, c6, c7, c8⟩, hf⟩ := hAk.cells hlt
      obtain ⟨ua, un, uc, hu⟩ := hU.out k hlt
      obtain ⟨hlk, m0, m1, m2, m3, m4, m5, m6, m7⟩ := hS.out k hlt
      rw [hz.out] at hzr hz9 m0 m1 m2 m3 m4 m5 m6 m7 ⊢
      rw [hu] at c8
      rw [m0] at c0 c1
      rw [m1] at c2
      rw [m2] at c3
      rw [m3] at c4
      rw [m4] at c5
      rw [m5] at c6
      rw [m6] at c7
      dsimp only at c0 c1
      have hs := hAk.lt
      have hl12 : (X k).deps.length ≤ 12 := by have := hdd.out k hlt; rw [hX2.out] at this; exact this
      have hI := (hAk.deps k hlt).1.read
      rw [hu] at hI
      have hp := fun W (hb : Below wr.heap.size wr W) => heldP_any (.slice ua un uc) (z + 1 + 1 + 1 + 1 + 1 + 1 + 1 + 1) (Y k).deps W m7 (hI.up hb (Nat.le_refl _)) (by omega) (by omega)
      rw [hX2.out] at hlk
      rw [hlk] at hp
      obtain ⟨ln, hln⟩ : ∃ m, Hid ((X k).deps.length = m) := ⟨_, Lib.hid rfl⟩
      rw [hln.out] at hp hz9 hl12
      clear hlk m0 m1 m2 m3 m4 m5 m6 m7 hf hAk hI hu
      go_wp2_with fail
      refine (hp _ (Below.refl _ _)).mono ?_
      rintro e w3 ⟨rfl, B3⟩
      have hB3 := Lib.hid (bstep hB.out B3)
      clear B3 hp hB c0 c1 c2 c3 c4 c5 c6 c7 c8
      go_wp2_with fail
      go_roundw
      case rel => exact ⟨k + 1, by omega, by go_num, by rw [hz9.out]; go_num, hB3⟩
      case measure => simp [intOf]; omega
    · obtain rfl : k = n := by omega
      go_wp2_with fail
      go_ret
      exact ⟨rfl, hB.out⟩
end Go.Proofs.YtdikcenhakfheaaGreatDoor
