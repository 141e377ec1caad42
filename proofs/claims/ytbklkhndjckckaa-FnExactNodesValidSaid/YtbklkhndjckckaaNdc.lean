/- The laws' copies of nodes. -/
import Derived.Test.YtbklkhndjckckaaNdm
import Derived.Test.YtbklkhndjckckaaIdl
import Derived.Deep.RegionWith
namespace Go.Proofs.Ytbklkhndjckckaa
open Go.RowKit
set_option linter.unusedVariables false

/-- A slice of nodes in a block of its own, with lists in blocks of their own, all from B on. -/
def NdO (w : World) (B : Nat) (v : Value) (N : List Nd) : Prop :=
  ∃ g cap cur t, v = .slice (some ⟨g, 0, none⟩) N.length cap ∧ B ≤ g ∧ w.heap[g]? = some (.cells cur t (0, 0)) ∧ N.length ≤ cap ∧ N.length ≤ 2000000 ∧
    ∀ i, i < N.length → cur[i * 4]? = some (.int .i64 (N.getD i nd0).id.1) ∧ cur[i * 4 + 1]? = some (.int .i64 (N.getD i nd0).id.2) ∧ cur[i * 4 + 2]? = some (.int .i64 (N.getD i nd0).seq) ∧ ∃ b u, B ≤ b ∧ b ≠ g ∧ cur[i * 4 + 3]? = some u ∧ OwnP w b u (N.getD i nd0).deps
theorem NdO.read {w : World} {B : Nat} {v : Value} {N : List Nd} (h : NdO w B v N) : Nds w v N := by
  obtain ⟨g, cap, cur, t, rfl, _, hg, h1, h2, h3⟩ := h
  refine ⟨_, cap, rfl, h1, h2, .inr ⟨g, 0, rfl, lt_of_heap hg, fun i hi => ?_⟩⟩
  obtain ⟨c0, c1, c2, b, u, _, _, c3, ho⟩ := h3 i hi
  obtain ⟨uc, rfl, _⟩ := ho.shape
  refine ⟨_, _, uc, ?_, ?_, ?_, ?_, ho.read⟩ <;> rw [Nat.zero_add, cell_of_cells hg] <;> assumption
theorem NdO.up {w w' : World} {B : Nat} {v : Value} {N : List Nd} (h : NdO w B v N) (hb : Below w.heap.size w w') : NdO w' B v N := by
  obtain ⟨g, cap, cur, t, rfl, h0, hg, h1, h2, h3⟩ := h
  refine ⟨g, cap, cur, t, rfl, h0, (hb.block g (lt_of_heap hg)).trans hg, h1, h2, fun i hi => ?_⟩
  obtain ⟨c0, c1, c2, b, u, q1, q2, c3, ho⟩ := h3 i hi
  exact ⟨c0, c1, c2, b, u, q1, q2, c3, ho.up hb ho.lt⟩

theorem info_nd : (Try.prog.info? 33).map (fun i => (i.zero, i.size, i.bytes)) = some (some (.agg #[.int .i64 0, .int .i64 0, .int .i64 0, .slice none 0 0]), 4, 48) := by kernel_rfl
theorem made_nds (n : Nat) (hn : n ≤ 2000000) (w : World) : (Instr.makeSlice 23 (.int .i64 n) (.int .i64 n)).run Try.prog w = .ok (.slice (some ⟨w.heap.size, 0, none⟩) n n) (w.alloc (.cells (madeCells #[.int .i64 0, .int .i64 0, .int .i64 0, .slice none 0 0] (n * 4)) 33)) := by
  obtain ⟨i, hi, hz, hs, hb⟩ := info_parts info_nd
  have hr := run_make (P := Try.prog) w 23 33 i _ Try.underlying23 hi hz .i64 .i64 n n (by omega) (Int.le_refl _) (by rw [hb]; omega) (by omega)
  simp only [Int.toNat_natCast, hs] at hr
  exact hr

theorem hold {w : World} {o x : Obj} {b : Nat} (h : w.heap[b]? = some x) : (w.alloc o).heap[b]? = some x := (Below.heap_alloc _ _ _ (lt_of_heap h)).trans h

theorem nd_res (tm : Array Value) (w : World) (b : Nat) (x y z u : Value) (t : TypeId) (h2 : tm[2]? = some (.pointer (some ⟨b, 0, none⟩))) (h : w.heap[b]? = some (.cells #[x, y, z, u] t (0, 0))) :
    (results Try.f51 tm).run Try.prog w = .ok (.agg #[x, y, z, u]) w := by
  obtain ⟨t0, t1, t2, t3⟩ := four_cells h
  simp [results, Try.results51, go_sem, h2, t0, t1, t2, t3]

/-- A node's copy. -/
def NdCPost (x : Nd) (w : World) (e : Ending) (w' : World) : Prop :=
  ∃ b cap, w.heap.size ≤ b ∧ e = .returned (.agg #[.int .i64 x.id.1, .int .i64 x.id.2, .int .i64 x.seq, .slice (some ⟨b, 0, none⟩) x.deps.length cap]) ∧ OwnP w' b (.slice (some ⟨b, 0, none⟩) x.deps.length cap) x.deps ∧ Below w.heap.size w w'

set_option maxRecDepth 100000 in
set_option maxHeartbeats 2000000 in
theorem toN_any (x : Nd) (u : Value) (w : World) (h : Ids w u x.deps) :
    Calls Try.prog 51 #[ndv x u] w (NdCPost x w) := by
  have sc := fun W (hb : Below w.heap.size w W) => toP_any u x.deps W (h.up hb (Nat.le_refl _))
  obtain ⟨ua, uc, rfl, _⟩ := h
  obtain ⟨⟨p, r⟩, s, C⟩ := x
  unfold NdCPost
  dsimp only [ndv] at sc ⊢
  obtain ⟨n, hn⟩ : ∃ n, Hid (C.length = n) := ⟨_, Lib.hid rfl⟩
  rw [hn.out] at sc ⊢
  have hbox := Lib.hid ((((Below.refl w.heap.size w).alloc (Nat.le_refl _) (.cells #[.int .i64 p, .int .i64 r, .int .i64 s, .slice ua n uc] 78)).alloc (by simp) (.cells #[.int .i64 0, .int .i64 0, .int .i64 0, .slice none 0 0] 33)).alloc (by simp; omega) (.cells #[.int .i64 0, .int .i64 0, .int .i64 0, .slice none 0 0] 33))
  go_enter Try.func51, Try.ntmps51
  go_wp2_with fail
  refine (toId_any p r _).mono ?_
  rintro e w1 ⟨rfl, B⟩
  have D1 := Lib.hid (hbox.out.trans (B.mono hbox.out.size))
  have A1 := Lib.hid ((B.block w.heap.size (by simp; omega)).trans (hold (hold (heap_alloc_new w (.cells #[.int .i64 p, .int .i64 r, .int .i64 s, .slice ua n uc] 78)))))
  have O1 := Lib.hid ((B.block (w.heap.size + 1) (by simp)).trans (hold (heap_alloc_at (w.alloc _) (.cells #[.int .i64 0, .int .i64 0, .int .i64 0, .slice none 0 0] 33) (w.heap.size + 1) (by simp))))
  have V1 := Lib.hid ((B.block (w.heap.size + 1 + 1) (by simp)).trans (heap_alloc_at _ (.cells #[.int .i64 0, .int .i64 0, .int .i64 0, .slice none 0 0] 33) _ (by simp)))
  have s1 := lt_of_heap V1.out
  obtain ⟨a0, a1, a2, a3⟩ := four_cells A1.out
  obtain ⟨v0, v1, v2, v3⟩ := four_cells V1.out
  have f0 := frozen_of_row w1 _ 0 _ _ V1.out
  have f1 := frozen_of_row w1 _ 1 _ _ V1.out
  have f2 := frozen_of_row w1 _ 2 _ _ V1.out
  clear B hbox
  go_wp2_with fail
  have V2 := Lib.hid (heap_setCell_same _ _ 2 _ _ (.int .i64 s) (heap_setCell_same _ _ 1 _ _ (.int .i64 r) (heap_setCell_same _ _ 0 _ _ (.int .i64 p) V1.out)))
  have D2 := Lib.hid (((D1.out.setCell (p := ⟨w.heap.size + 1 + 1, 0, none⟩) (by show w.heap.size ≤ w.heap.size + 1 + 1; omega) (.int .i64 p)).setCell (p := ⟨w.heap.size + 1 + 1, 1, none⟩) (by show w.heap.size ≤ w.heap.size + 1 + 1; omega) (.int .i64 r)).setCell (p := ⟨w.heap.size + 1 + 1, 2, none⟩) (by show w.heap.size ≤ w.heap.size + 1 + 1; omega) (.int .i64 s))
  have O2 := Lib.hid ((heap_setCell_other _ ⟨w.heap.size + 1 + 1, 2, none⟩ (w.heap.size + 1) (.int .i64 s) (by simp)).trans ((heap_setCell_other _ ⟨w.heap.size + 1 + 1, 1, none⟩ (w.heap.size + 1) (.int .i64 r) (by simp)).trans ((heap_setCell_other _ ⟨w.heap.size + 1 + 1, 0, none⟩ (w.heap.size + 1) (.int .i64 p) (by simp)).trans O1.out)))
  clear V1 O1 A1 D1 a0 a1 a2 a3 v0 v1 v2 v3 f0 f1 f2 s1
  refine (sc _ D2.out).mono ?_
  rintro e w2 ⟨b, u, hbu, rfl, hO, B⟩
  obtain ⟨cap, rfl, _⟩ := hO.shape
  rw [hn.out] at hO ⊢
  have D3 := Lib.hid (bstep D2.out B)
  have hble := Lib.hid (Nat.le_trans D2.out.size hbu)
  have hne1 : b ≠ w.heap.size + 1 + 1 := by have := lt_of_heap V2.out; omega
  have hne2 : b ≠ w.heap.size + 1 := by have := lt_of_heap O2.out; omega
  have V3 := Lib.hid (bblk B (lt_of_heap V2.out) V2.out)
  have O3 := Lib.hid (bblk B (lt_of_heap O2.out) O2.out)
  have hO := Lib.hid hO
  clear V2 O2 D2 B hbu sc
  have s3 := lt_of_heap V3.out
  obtain ⟨v0, v1, v2, v3⟩ := four_cells (show w2.heap[w.heap.size + 1 + 1]? = some (.cells #[.int .i64 p, .int .i64 r, .int .i64 s, .slice none 0 0] 33 (0, 0)) from V3.out)
  have f3 := frozen_of_row w2 _ 3 _ _ V3.out
  obtain ⟨o0, o1, o2, o3⟩ := four_cells O3.out
  have g0 := frozen_of_row w2 _ 0 _ _ O3.out
  have g1 := frozen_of_row w2 _ 1 _ _ O3.out
  have g2 := frozen_of_row w2 _ 2 _ _ O3.out
  have g3 := frozen_of_row w2 _ 3 _ _ O3.out
  go_wp2_with fail
  have U : ∀ k ≠ w.heap.size + 1 + 1, k ≠ w.heap.size + 1 → (((((w2.setCell ⟨w.heap.size + 1 + 1, 3, none⟩ (.slice (some ⟨b, 0, none⟩) n cap)).setCell ⟨w.heap.size + 1, 0, none⟩ (.int .i64 p)).setCell ⟨w.heap.size + 1, 1, none⟩ (.int .i64 r)).setCell ⟨w.heap.size + 1, 2, none⟩ (.int .i64 s)).setCell ⟨w.heap.size + 1, 3, none⟩ (.slice (some ⟨b, 0, none⟩) n cap)).heap[k]? = w2.heap[k]? := fun k h1 h2 => by
    rw [heap_setCell_other _ _ _ _ h2, heap_setCell_other _ _ _ _ h2, heap_setCell_other _ _ _ _ h2, heap_setCell_other _ _ _ _ h2, heap_setCell_other _ _ _ _ h1]
  have O4 := heap_setCell_same _ _ 3 _ _ (.slice (some ⟨b, 0, none⟩) n cap) (heap_setCell_same _ _ 2 _ _ (.int .i64 s) (heap_setCell_same _ _ 1 _ _ (.int .i64 r) (heap_setCell_same _ _ 0 _ _ (.int .i64 p) ((heap_setCell_other w2 ⟨w.heap.size + 1 + 1, 3, none⟩ (w.heap.size + 1) (.slice (some ⟨b, 0, none⟩) n cap) (by simp)).trans O3.out))))
  exact bodyPost_ret (nd_res _ _ _ _ _ _ _ _ rfl O4) rfl ⟨b, cap, hble.out, rfl, hO.out.same (U b hne1 hne2), ((((D3.out.setCell (by simp; omega) _).setCell (by simp) _).setCell (by simp) _).setCell (by simp) _).setCell (by simp) _⟩
/-- Copies so far. -/
def NdK (w : World) (B g n k : Nat) (N : List Nd) : Prop :=
  ∃ cur t, w.heap[g]? = some (.cells cur t (0, 0)) ∧ cur.size = n * 4 ∧
    ∀ i, i < k → cur[i * 4]? = some (.int .i64 (N.getD i nd0).id.1) ∧ cur[i * 4 + 1]? = some (.int .i64 (N.getD i nd0).id.2) ∧ cur[i * 4 + 2]? = some (.int .i64 (N.getD i nd0).seq) ∧ ∃ b u, B ≤ b ∧ b ≠ g ∧ cur[i * 4 + 3]? = some u ∧ OwnP w b u (N.getD i nd0).deps
theorem NdK.lt {w : World} {B g n k : Nat} {N : List Nd} (h : NdK w B g n k N) : g < w.heap.size := by obtain ⟨cur, t, h, _⟩ := h; exact lt_of_heap h
theorem NdK.up {w w' : World} {B g n k : Nat} {N : List Nd} (h : NdK w B g n k N) (hb : Below w.heap.size w w') : NdK w' B g n k N := by
  obtain ⟨cur, t, h1, h2, h3⟩ := h
  refine ⟨cur, t, (hb.block g (lt_of_heap h1)).trans h1, h2, fun i hi => ?_⟩
  obtain ⟨c0, c1, c2, b, u, q1, q2, c3, ho⟩ := h3 i hi
  exact ⟨c0, c1, c2, b, u, q1, q2, c3, ho.up hb ho.lt⟩
theorem NdK.old {w : World} {B g n k : Nat} {N : List Nd} (h : NdK w B g n k N) {j : Nat} (hj : j < n * 4) : (∃ y, w.cell? ⟨g, j, none⟩ = some y) ∧ w.frozen? ⟨g, j, none⟩ = false := by
  obtain ⟨cur, t, h1, h2, _⟩ := h
  exact ⟨⟨_, (cell_of_cells h1).trans (Array.getElem?_eq_getElem (by omega))⟩, frozen_of_row w g j _ _ h1⟩
theorem NdK.put {w : World} {B g n k : Nat} {N : List Nd} (h : NdK w B g n k N) (hk : k < n) {b : Nat} {u : Value} (hB : B ≤ b) (hbg : b ≠ g) (ho : OwnP w b u (N.getD k nd0).deps) :
    NdK ((((w.setCell ⟨g, k * 4, none⟩ (.int .i64 (N.getD k nd0).id.1)).setCell ⟨g, k * 4 + 1, none⟩ (.int .i64 (N.getD k nd0).id.2)).setCell ⟨g, k * 4 + 2, none⟩ (.int .i64 (N.getD k nd0).seq)).setCell ⟨g, k * 4 + 3, none⟩ u) B g n (k + 1) N := by
  obtain ⟨cur, t, h1, h2, h3⟩ := h
  have H := heap_setCell_same _ _ (k * 4 + 3) _ _ u (heap_setCell_same _ _ (k * 4 + 2) _ _ (.int .i64 (N.getD k nd0).seq) (heap_setCell_same _ _ (k * 4 + 1) _ _ (.int .i64 (N.getD k nd0).id.2) (heap_setCell_same _ _ (k * 4) _ _ (.int .i64 (N.getD k nd0).id.1) h1)))
  have U : ∀ j, j ≠ g → ((((w.setCell ⟨g, k * 4, none⟩ (.int .i64 (N.getD k nd0).id.1)).setCell ⟨g, k * 4 + 1, none⟩ (.int .i64 (N.getD k nd0).id.2)).setCell ⟨g, k * 4 + 2, none⟩ (.int .i64 (N.getD k nd0).seq)).setCell ⟨g, k * 4 + 3, none⟩ u).heap[j]? = w.heap[j]? := fun j hj => by
    rw [heap_setCell_other _ _ _ _ hj, heap_setCell_other _ _ _ _ hj, heap_setCell_other _ _ _ _ hj, heap_setCell_other _ _ _ _ hj]
  refine ⟨_, t, H, by simpa using h2, fun i hi => ?_⟩
  by_cases e : i = k
  · subst e
    refine ⟨?_, ?_, ?_, b, u, hB, hbg, ?_, ho.same (U b hbg)⟩
    · rw [Array.getElem?_setIfInBounds, if_neg (by omega), Array.getElem?_setIfInBounds, if_neg (by omega), Array.getElem?_setIfInBounds, if_neg (by omega), Array.getElem?_setIfInBounds, if_pos rfl, if_pos (by omega)]
    · rw [Array.getElem?_setIfInBounds, if_neg (by omega), Array.getElem?_setIfInBounds, if_neg (by omega), Array.getElem?_setIfInBounds, if_pos rfl, if_pos (by simp; omega)]
    · rw [Array.getElem?_setIfInBounds, if_neg (by omega), Array.getElem?_setIfInBounds, if_pos rfl, if_pos (by simp; omega)]
    · rw [Array.getElem?_setIfInBounds, if_pos rfl, if_pos (by simp; omega)]
  · obtain ⟨c0, c1, c2, b', u', q1, q2, c3, ho'⟩ := h3 i (by omega)
    refine ⟨?_, ?_, ?_, b', u', q1, q2, ?_, ho'.same (U b' q2)⟩ <;>
      (rw [Array.getElem?_setIfInBounds, if_neg (by omega), Array.getElem?_setIfInBounds, if_neg (by omega), Array.getElem?_setIfInBounds, if_neg (by omega), Array.getElem?_setIfInBounds, if_neg (by omega)]; assumption)
theorem ndK_made (w : World) (n : Nat) (N : List Nd) (t : TypeId) : NdK (w.alloc (.cells (madeCells #[.int .i64 0, .int .i64 0, .int .i64 0, .slice none 0 0] (n * 4)) t)) w.heap.size w.heap.size n 0 N :=
  ⟨_, t, heap_alloc_new w _, by simp [madeCells], fun i hi => absurd hi (Nat.not_lt_zero _)⟩

/-- What toNodeS leaves. -/
def NdsCPost (N : List Nd) (w : World) (e : Ending) (w' : World) : Prop := ∃ v, e = .returned v ∧ NdO w' w.heap.size v N ∧ Below w.heap.size w w'

set_option maxRecDepth 100000 in
set_option maxHeartbeats 2000000 in
theorem toNs_at (b off ca : Nat) (N : List Nd) (w : World) (hb : b < w.heap.size) (hm : N.length ≤ 2000000) (h : ∀ i, i < N.length → NdIn w b (off + i * 4) (N.getD i nd0)) :
    Calls Try.prog 22 #[.slice (some ⟨b, off, none⟩) N.length ca] w (NdsCPost N w) := by
  have hmk := made_nds N.length hm
  have h := Lib.hid h
  have hO := Lib.hid (ndK_made w N.length N 33)
  obtain ⟨n, hn⟩ : ∃ n, Hid (N.length = n) := ⟨_, Lib.hid rfl⟩
  rw [hn.out] at hmk hm hO ⊢
  go_enter Try.func22, Try.ntmps22
  go_wp2_with fail
  clear hmk
  go_loopw [4] (fun i wr => ∃ k : Nat, k ≤ n ∧ i = .int .i64 k ∧ Hid (NdK wr w.heap.size w.heap.size n k N) ∧ Below w.heap.size w wr) (fun i _ => n - (intOf i).toNat)
  case atStart => exact ⟨0, Nat.zero_le _, rfl, hO, (Below.refl _ _).alloc (Nat.le_refl _) _⟩
  case round =>
    obtain ⟨k, hk, rfl, hM, hnx⟩ := hrel
    clear hO
    by_cases hlt : k < n
    · obtain ⟨ua, un, uc, h0, h1, h2, h3, h4⟩ := h.out k (by rw [hn.out]; exact hlt)
      have q0 := (hnx.cell (p := ⟨b, off + k * 4, none⟩) hb).trans h0
      have q1 := (hnx.cell (p := ⟨b, off + k * 4 + 1, none⟩) hb).trans h1
      have q2 := (hnx.cell (p := ⟨b, off + k * 4 + 2, none⟩) hb).trans h2
      have q3 := (hnx.cell (p := ⟨b, off + k * 4 + 3, none⟩) hb).trans h3
      have sc := toN_any (N.getD k nd0) (.slice ua un uc) wr (h4.up hnx (Nat.le_refl _))
      clear h0 h1 h2 h3 h4
      have put := Lib.hid (fun (W : World) (H : NdK W w.heap.size w.heap.size n k N) (b : Nat) (u : Value) => NdK.put (b := b) (u := u) H hlt)
      unfold NdCPost ndv at sc
      generalize N.getD k nd0 = x at q0 q1 q2 put sc
      obtain ⟨⟨p, r⟩, s, C⟩ := x
      dsimp only at q0 q1 q2 sc
      have hnx := Lib.hid hnx
      have hs := Lib.hid hM.out.lt
      go_wp2_with fail
      refine sc.mono ?_
      rintro e w1 ⟨b1, cap, hb1, rfl, hO1, B⟩
      have hK := hM.out.up B
      obtain ⟨⟨y0, d0⟩, f0⟩ := hK.old (j := k * 4) (by omega)
      obtain ⟨⟨y1, d1⟩, f1⟩ := hK.old (j := k * 4 + 1) (by omega)
      obtain ⟨⟨y2, d2⟩, f2⟩ := hK.old (j := k * 4 + 2) (by omega)
      obtain ⟨⟨y3, d3⟩, f3⟩ := hK.old (j := k * 4 + 3) (by omega)
      have hs1 := hK.lt
      have R := Lib.hid (put.out w1 hK b1 _ (Nat.le_trans hnx.out.size hb1) (by have := hs.out; omega) hO1)
      have D1 := Lib.hid (hnx.out.trans (B.mono hnx.out.size))
      clear hM h hO1 B hnx q0 q1 q2 q3 hs hK sc put hb1
      go_wp2_with fail
      go_roundw
      case rel => exact ⟨k + 1, by omega, by go_num, Lib.hid R.out, (((D1.out.setCell (by simp) _).setCell (by simp) _).setCell (by simp) _).setCell (by simp) _⟩
      case measure => simp [intOf]; omega
    · obtain rfl : k = n := by omega
      have hnx := Lib.hid hnx
      clear h
      go_wp2_with fail
      go_ret
      refine ⟨_, rfl, ?_, hnx.out⟩
      obtain ⟨cur, t, h1, h2, h3⟩ := hM.out
      exact ⟨w.heap.size, k, cur, t, by have e := hn.out; subst e; rfl, Nat.le_refl _, h1, by rw [hn.out]; exact Nat.le_refl _, by rw [hn.out]; exact hm, fun i hi => h3 i (by rw [← hn.out]; exact hi)⟩

set_option maxRecDepth 100000 in
theorem toNs_nil (a : Option Addr) (ca : Nat) (w : World) :
    Calls Try.prog 22 #[.slice a 0 ca] w (NdsCPost [] w) := by
  have hmk : ∀ w : World, (Instr.makeSlice 23 (.int .i64 0) (.int .i64 0)).run Try.prog w = .ok (.slice (some ⟨w.heap.size, 0, none⟩) 0 0) (w.alloc (.cells (madeCells #[.int .i64 0, .int .i64 0, .int .i64 0, .slice none 0 0] (0 * 4)) 33)) := made_nds 0 (by omega)
  have hO := Lib.hid (ndK_made w 0 [] 33)
  go_enter Try.func22, Try.ntmps22
  go_wp2_with fail
  refine wp_loop_rounds 1 ?_
  rw [rounds_succ]
  go_wp2_with fail
  go_ret
  obtain ⟨cur, t, h1, h2, h3⟩ := hO.out
  exact ⟨_, rfl, ⟨_, 0, cur, t, rfl, Nat.le_refl _, h1, Nat.le_refl _, Nat.zero_le _, h3⟩, (Below.refl _ _).alloc (Nat.le_refl _) _⟩

/-- A COPY OF NODES. -/
theorem toNs_any (u : Value) (N : List Nd) (w : World) (h : Nds w u N) :
    Calls Try.prog 22 #[u] w (NdsCPost N w) := by
  obtain ⟨a, cap, rfl, h1, h2, h3⟩ := h
  rcases h3 with h3 | ⟨b, off, rfl, h4, h5⟩
  · obtain rfl : N = [] := List.length_eq_zero_iff.1 h3
    exact toNs_nil a cap w
  · exact toNs_at b off cap N w h4 h2 h5
end Go.Proofs.Ytbklkhndjckckaa
