/- Texts laid together. -/
import Derived.Test.YtbbnchodchgioaaDoorC01
import Derived.Deep.RegionWith
/- The laws' copies of nodes. -/
namespace Go.Proofs.YtbbnchodchgioaaDoor
open Go.RowKit
set_option linter.unusedVariables false

/-- A slice of nodes in a block of its own, with lists in blocks of their own, all from B on. -/
def NdO (w : World) (B : Nat) (v : Value) (N : List Nd) : Prop :=
  ∃ g cap cur t, v = .slice (some ⟨g, 0, none⟩) N.length cap ∧ B ≤ g ∧ w.heap[g]? = some (.cells cur t (0, 0)) ∧ N.length ≤ cap ∧ N.length ≤ 2000000 ∧
    ∀ i, i < N.length → cur[i * 4]? = some (.int .i64 (N.getD i nd0).id.1) ∧ cur[i * 4 + 1]? = some (.int .i64 (N.getD i nd0).id.2) ∧ cur[i * 4 + 2]? = some (.int .i64 (N.getD i nd0).seq) ∧ ∃ b u, B ≤ b ∧ b ≠ g ∧ cur[i * 4 + 3]? = some u ∧ OwnP w b u (N.getD i nd0).deps
theorem NdO.read {w : World} {B : Nat} {v : Value} {N : List Nd} (h : NdO w B v N) : Nds w v N := by
  obtain ⟨g, cap, cur, t, rfl, _, hg, h1, h2, h3⟩ := h
  refine ⟨_, cap, rfl, h1, h2, .inr ⟨g, 0, rfl, lt_of_heap hg, fun i hi => ?_⟩⟩
  obtain ⟨c0, c1, c2, b, u, _, _, c3, ho⟩ := h3 i hi
  obtain ⟨uc, rfl, _⟩ := ho.shape
  refine ⟨_, _, uc, ?_, ?_, ?_, ?_, ho.read⟩ <;> rw [Nat.zero_add, cell_of_cells hg] <;> assumption
theorem NdO.up {w w' : World} {B : Nat} {v : Value} {N : List Nd} (h : NdO w B v N) (hb : Below w.heap.size w w') : NdO w' B v N := by
  obtain ⟨g, cap, cur, t, rfl, h0, hg, h1, h2, h3⟩ := h
  refine ⟨g, cap, cur, t, rfl, h0, (hb.block g (lt_of_heap hg)).trans hg, h1, h2, fun i hi => ?_⟩
  obtain ⟨c0, c1, c2, b, u, q1, q2, c3, ho⟩ := h3 i hi
  exact ⟨c0, c1, c2, b, u, q1, q2, c3, ho.up hb ho.lt⟩

theorem info_nd : (Tryd.prog.info? 32).map (fun i => (i.zero, i.size, i.bytes)) = some (some (.agg #[.int .i64 0, .int .i64 0, .int .i64 0, .slice none 0 0]), 4, 48) := by kernel_rfl
theorem made_nds (n : Nat) (hn : n ≤ 2000000) (w : World) : (Instr.makeSlice 23 (.int .i64 n) (.int .i64 n)).run Tryd.prog w = .ok (.slice (some ⟨w.heap.size, 0, none⟩) n n) (w.alloc (.cells (madeCells #[.int .i64 0, .int .i64 0, .int .i64 0, .slice none 0 0] (n * 4)) 32)) := by
  obtain ⟨i, hi, hz, hs, hb⟩ := info_parts info_nd
  have hr := run_make (P := Tryd.prog) w 23 32 i _ Tryd.underlying23 hi hz .i64 .i64 n n (by omega) (Int.le_refl _) (by rw [hb]; omega) (by omega)
  simp only [Int.toNat_natCast, hs] at hr
  exact hr

theorem hold {w : World} {o x : Obj} {b : Nat} (h : w.heap[b]? = some x) : (w.alloc o).heap[b]? = some x := (Below.heap_alloc _ _ _ (lt_of_heap h)).trans h

theorem nd_res (tm : Array Value) (w : World) (b : Nat) (x y z u : Value) (t : TypeId) (h2 : tm[2]? = some (.pointer (some ⟨b, 0, none⟩))) (h : w.heap[b]? = some (.cells #[x, y, z, u] t (0, 0))) :
    (results Tryd.f61 tm).run Tryd.prog w = .ok (.agg #[x, y, z, u]) w := by
  obtain ⟨t0, t1, t2, t3⟩ := four_cells h
  simp [results, Tryd.results61, go_sem, h2, t0, t1, t2, t3]

/-- A node's copy. -/
def NdCPost (x : Nd) (w : World) (e : Ending) (w' : World) : Prop :=
  ∃ b cap, w.heap.size ≤ b ∧ e = .returned (.agg #[.int .i64 x.id.1, .int .i64 x.id.2, .int .i64 x.seq, .slice (some ⟨b, 0, none⟩) x.deps.length cap]) ∧ OwnP w' b (.slice (some ⟨b, 0, none⟩) x.deps.length cap) x.deps ∧ Below w.heap.size w w'

set_option maxRecDepth 100000 in
set_option maxHeartbeats 2000000 in
theorem toN_any (x : Nd) (u : Value) (w : World) (h : Ids w u x.deps) :
    Calls Tryd.prog 61 #[ndv x u] w (NdCPost x w) := by
  have sc := fun W (hb : Below w.heap.size w W) => toP_any u x.deps W (h.up hb (Nat.le_refl _))
  obtain ⟨ua, uc, rfl, _⟩ := h
  obtain ⟨⟨p, r⟩, s, C⟩ := x
  unfold NdCPost
  dsimp only [ndv] at sc ⊢
  obtain ⟨n, hn⟩ : ∃ n, Hid (C.length = n) := ⟨_, Lib.hid rfl⟩
  rw [hn.out] at sc ⊢
  have hbox := Lib.hid ((((Below.refl w.heap.size w).alloc (Nat.le_refl _) (.cells #[.int .i64 p, .int .i64 r, .int .i64 s, .slice ua n uc] 79)).alloc (by simp) (.cells #[.int .i64 0, .int .i64 0, .int .i64 0, .slice none 0 0] 32)).alloc (by simp; omega) (.cells #[.int .i64 0, .int .i64 0, .int .i64 0, .slice none 0 0] 32))
  go_enter Tryd.func61, Tryd.ntmps61
  go_wp2_with fail
  refine (toId_any p r _).mono ?_
  rintro e w1 ⟨rfl, B⟩
  have D1 := Lib.hid (hbox.out.trans (B.mono hbox.out.size))
  have A1 := Lib.hid ((B.block w.heap.size (by simp; omega)).trans (hold (hold (heap_alloc_new w (.cells #[.int .i64 p, .int .i64 r, .int .i64 s, .slice ua n uc] 79)))))
  have O1 := Lib.hid ((B.block (w.heap.size + 1) (by simp)).trans (hold (heap_alloc_at (w.alloc _) (.cells #[.int .i64 0, .int .i64 0, .int .i64 0, .slice none 0 0] 32) (w.heap.size + 1) (by simp))))
  have V1 := Lib.hid ((B.block (w.heap.size + 1 + 1) (by simp)).trans (heap_alloc_at _ (.cells #[.int .i64 0, .int .i64 0, .int .i64 0, .slice none 0 0] 32) _ (by simp)))
  have s1 := lt_of_heap V1.out
  obtain ⟨a0, a1, a2, a3⟩ := four_cells A1.out
  obtain ⟨v0, v1, v2, v3⟩ := four_cells V1.out
  have f0 := frozen_of_row w1 _ 0 _ _ V1.out
  have f1 := frozen_of_row w1 _ 1 _ _ V1.out
  have f2 := frozen_of_row w1 _ 2 _ _ V1.out
  clear B hbox
  go_wp2_with fail
  have V2 := Lib.hid (heap_setCell_same _ _ 2 _ _ (.int .i64 s) (heap_setCell_same _ _ 1 _ _ (.int .i64 r) (heap_setCell_same _ _ 0 _ _ (.int .i64 p) V1.out)))
  have D2 := Lib.hid (((D1.out.setCell (p := ⟨w.heap.size + 1 + 1, 0, none⟩) (by show w.heap.size ≤ w.heap.size + 1 + 1; omega) (.int .i64 p)).setCell (p := ⟨w.heap.size + 1 + 1, 1, none⟩) (by show w.heap.size ≤ w.heap.size + 1 + 1; omega) (.int .i64 r)).setCell (p := ⟨w.heap.size + 1 + 1, 2, none⟩) (by show w.heap.size ≤ w.heap.size + 1 + 1; omega) (.int .i64 s))
  have O2 := Lib.hid ((heap_setCell_other _ ⟨w.heap.size + 1 + 1, 2, none⟩ (w.heap.size + 1) (.int .i64 s) (by simp)).trans ((heap_setCell_other _ ⟨w.heap.size + 1 + 1, 1, none⟩ (w.heap.size + 1) (.int .i64 r) (by simp)).trans ((heap_setCell_other _ ⟨w.heap.size + 1 + 1, 0, none⟩ (w.heap.size + 1) (.int .i64 p) (by simp)).trans O1.out)))
  clear V1 O1 A1 D1 a0 a1 a2 a3 v0 v1 v2 v3 f0 f1 f2 s1
  refine (sc _ D2.out).mono ?_
  rintro e w2 ⟨b, u, hbu, rfl, hO, B⟩
  obtain ⟨cap, rfl, _⟩ := hO.shape
  rw [hn.out] at hO ⊢
  have D3 := Lib.hid (bstep D2.out B)
  have hble := Lib.hid (Nat.le_trans D2.out.size hbu)
  have hne1 : b ≠ w.heap.size + 1 + 1 := by have := lt_of_heap V2.out; omega
  have hne2 : b ≠ w.heap.size + 1 := by have := lt_of_heap O2.out; omega
  have V3 := Lib.hid (bblk B (lt_of_heap V2.out) V2.out)
  have O3 := Lib.hid (bblk B (lt_of_heap O2.out) O2.out)
  have hO := Lib.hid hO
  clear V2 O2 D2 B hbu sc
  have s3 := lt_of_heap V3.out
  obtain ⟨v0, v1, v2, v3⟩ := four_cells (show w2.heap[w.heap.size + 1 + 1]? = some (.cells #[.int .i64 p, .int .i64 r, .int .i64 s, .slice none 0 0] 32 (0, 0)) from V3.out)
  have f3 := frozen_of_row w2 _ 3 _ _ V3.out
  obtain ⟨o0, o1, o2, o3⟩ := four_cells O3.out
  have g0 := frozen_of_row w2 _ 0 _ _ O3.out
  have g1 := frozen_of_row w2 _ 1 _ _ O3.out
  have g2 := frozen_of_row w2 _ 2 _ _ O3.out
  have g3 := frozen_of_row w2 _ 3 _ _ O3.out
  go_wp2_with fail
  have U : ∀ k ≠ w.heap.size + 1 + 1, k ≠ w.heap.size + 1 → (((((w2.setCell ⟨w.heap.size + 1 + 1, 3, none⟩ (.slice (some ⟨b, 0, none⟩) n cap)).setCell ⟨w.heap.size + 1, 0, none⟩ (.int .i64 p)).setCell ⟨w.heap.size + 1, 1, none⟩ (.int .i64 r)).setCell ⟨w.heap.size + 1, 2, none⟩ (.int .i64 s)).setCell ⟨w.heap.size + 1, 3, none⟩ (.slice (some ⟨b, 0, none⟩) n cap)).heap[k]? = w2.heap[k]? := fun k h1 h2 => by
    rw [heap_setCell_other _ _ _ _ h2, heap_setCell_other _ _ _ _ h2, heap_setCell_other _ _ _ _ h2, heap_setCell_other _ _ _ _ h2, heap_setCell_other _ _ _ _ h1]
  have O4 := heap_setCell_same _ _ 3 _ _ (.slice (some ⟨b, 0, none⟩) n cap) (heap_setCell_same _ _ 2 _ _ (.int .i64 s) (heap_setCell_same _ _ 1 _ _ (.int .i64 r) (heap_setCell_same _ _ 0 _ _ (.int .i64 p) ((heap_setCell_other w2 ⟨w.heap.size + 1 + 1, 3, none⟩ (w.heap.size + 1) (.slice (some ⟨b, 0, none⟩) n cap) (by simp)).trans O3.out))))
  exact bodyPost_ret (nd_res _ _ _ _ _ _ _ _ rfl O4) rfl ⟨b, cap, hble.out, rfl, hO.out.same (U b hne1 hne2), ((((D3.out.setCell (by simp; omega) _).setCell (by simp) _).setCell (by simp) _).setCell (by simp) _).setCell (by simp) _⟩
/-- Copies so far. -/
def NdK (w : World) (B g n k : Nat) (N : List Nd) : Prop :=
  ∃ cur t, w.heap[g]? = some (.cells cur t (0, 0)) ∧ cur.size = n * 4 ∧
    ∀ i, i < k → cur[i * 4]? = some (.int .i64 (N.getD i nd0).id.1) ∧ cur[i * 4 + 1]? = some (.int .i64 (N.getD i nd0).id.2) ∧ cur[i * 4 + 2]? = some (.int .i64 (N.getD i nd0).seq) ∧ ∃ b u, B ≤ b ∧ b ≠ g ∧ cur[i * 4 + 3]? = some u ∧ OwnP w b u (N.getD i nd0).deps
theorem NdK.lt {w : World} {B g n k : Nat} {N : List Nd} (h : NdK w B g n k N) : g < w.heap.size := by obtain ⟨cur, t, h, _⟩ := h; exact lt_of_heap h
theorem NdK.up {w w' : World} {B g n k : Nat} {N : List Nd} (h : NdK w B g n k N) (hb : Below w.heap.size w w') : NdK w' B g n k N := by
  obtain ⟨cur, t, h1, h2, h3⟩ := h
  refine ⟨cur, t, (hb.block g (lt_of_heap h1)).trans h1, h2, fun i hi => ?_⟩
  obtain ⟨c0, c1, c2, b, u, q1, q2, c3, ho⟩ := h3 i hi
  exact ⟨c0, c1, c2, b, u, q1, q2, c3, ho.up hb ho.lt⟩
theorem NdK.old {w : World} {B g n k : Nat} {N : List Nd} (h : NdK w B g n k N) {j : Nat} (hj : j < n * 4) : (∃ y, w.cell? ⟨g, j, none⟩ = some y) ∧ w.frozen? ⟨g, j, none⟩ = false := by
  obtain ⟨cur, t, h1, h2, _⟩ := h
  exact ⟨⟨_, (cell_of_cells h1).trans (Array.getElem?_eq_getElem (by omega))⟩, frozen_of_row w g j _ _ h1⟩
theorem NdK.put {w : World} {B g n k : Nat} {N : List Nd} (h : NdK w B g n k N) (hk : k < n) {b : Nat} {u : Value} (hB : B ≤ b) (hbg : b ≠ g) (ho : OwnP w b u (N.getD k nd0).deps) :
    NdK ((((w.setCell ⟨g, k * 4, none⟩ (.int .i64 (N.getD k nd0).id.1)).setCell ⟨g, k * 4 + 1, none⟩ (.int .i64 (N.getD k nd0).id.2)).setCell ⟨g, k * 4 + 2, none⟩ (.int .i64 (N.getD k nd0).seq)).setCell ⟨g, k * 4 + 3, none⟩ u) B g n (k + 1) N := by
  obtain ⟨cur, t, h1, h2, h3⟩ := h
  have H := heap_setCell_same _ _ (k * 4 + 3) _ _ u (heap_setCell_same _ _ (k * 4 + 2) _ _ (.int .i64 (N.getD k nd0).seq) (heap_setCell_same _ _ (k * 4 + 1) _ _ (.int .i64 (N.getD k nd0).id.2) (heap_setCell_same _ _ (k * 4) _ _ (.int .i64 (N.getD k nd0).id.1) h1)))
  have U : ∀ j, j ≠ g → ((((w.setCell ⟨g, k * 4, none⟩ (.int .i64 (N.getD k nd0).id.1)).setCell ⟨g, k * 4 + 1, none⟩ (.int .i64 (N.getD k nd0).id.2)).setCell ⟨g, k * 4 + 2, none⟩ (.int .i64 (N.getD k nd0).seq)).setCell ⟨g, k * 4 + 3, none⟩ u).heap[j]? = w.heap[j]? := fun j hj => by
    rw [heap_setCell_other _ _ _ _ hj, heap_setCell_other _ _ _ _ hj, heap_setCell_other _ _ _ _ hj, heap_setCell_other _ _ _ _ hj]
  refine ⟨_, t, H, by simpa using h2, fun i hi => ?_⟩
  by_cases e : i = k
  · subst e
    refine ⟨?_, ?_, ?_, b, u, hB, hbg, ?_, ho.same (U b hbg)⟩
    · rw [Array.getElem?_setIfInBounds, if_neg (by omega), Array.getElem?_setIfInBounds, if_neg (by omega), Array.getElem?_setIfInBounds, if_neg (by omega), Array.getElem?_setIfInBounds, if_pos rfl, if_pos (by omega)]
    · rw [Array.getElem?_setIfInBounds, if_neg (by omega), Array.getElem?_setIfInBounds, if_neg (by omega), Array.getElem?_setIfInBounds, if_pos rfl, if_pos (by simp; omega)]
    · rw [Array.getElem?_setIfInBounds, if_neg (by omega), Array.getElem?_setIfInBounds, if_pos rfl, if_pos (by simp; omega)]
    · rw [Array.getElem?_setIfInBounds, if_pos rfl, if_pos (by simp; omega)]
  · obtain ⟨c0, c1, c2, b', u', q1, q2, c3, ho'⟩ := h3 i (by omega)
    refine ⟨?_, ?_, ?_, b', u', q1, q2, ?_, ho'.same (U b' q2)⟩ <;>
      (rw [Array.getElem?_setIfInBounds, if_neg (by omega), Array.getElem?_setIfInBounds, if_neg (by omega), Array.getElem?_setIfInBounds, if_neg (by omega), Array.getElem?_setIfInBounds, if_neg (by omega)]; assumption)
theorem ndK_made (w : World) (n : Nat) (N : List Nd) (t : TypeId) : NdK (w.alloc (.cells (madeCells #[.int .i64 0, .int .i64 0, .int .i64 0, .slice none 0 0] (n * 4)) t)) w.heap.size w.heap.size n 0 N :=
  ⟨_, t, heap_alloc_new w _, by simp [madeCells], fun i hi => absurd hi (Nat.not_lt_zero _)⟩

/-- What toNodeS leaves. -/
def NdsCPost (N : List Nd) (w : World) (e : Ending) (w' : World) : Prop := ∃ v, e = .returned v ∧ NdO w' w.heap.size v N ∧ Below w.heap.size w w'

set_option maxRecDepth 100000 in
set_option maxHeartbeats 2000000 in
theorem toNs_at (b off ca : Nat) (N : List Nd) (w : World) (hb : b < w.heap.size) (hm : N.length ≤ 2000000) (h : ∀ i, i < N.length → NdIn w b (off + i * 4) (N.getD i nd0)) :
    Calls Tryd.prog 32 #[.slice (some ⟨b, off, none⟩) N.length ca] w (NdsCPost N w) := by
  have hmk := made_nds N.length hm
  have h := Lib.hid h
  have hO := Lib.hid (ndK_made w N.length N 32)
  obtain ⟨n, hn⟩ : ∃ n, Hid (N.length = n) := ⟨_, Lib.hid rfl⟩
  rw [hn.out] at hmk hm hO ⊢
  go_enter Tryd.func32, Tryd.ntmps32
  go_wp2_with fail
  clear hmk
  go_loopw [4] (fun i wr => ∃ k : Nat, k ≤ n ∧ i = .int .i64 k ∧ Hid (NdK wr w.heap.size w.heap.size n k N) ∧ Below w.heap.size w wr) (fun i _ => n - (intOf i).toNat)
  case atStart => exact ⟨0, Nat.zero_le _, rfl, hO, (Below.refl _ _).alloc (Nat.le_refl _) _⟩
  case round =>
    obtain ⟨k, hk, rfl, hM, hnx⟩ := hrel
    clear hO
    by_cases hlt : k < n
    · obtain ⟨ua, un, uc, h0, h1, h2, h3, h4⟩ := h.out k (by rw [hn.out]; exact hlt)
      have q0 := (hnx.cell (p := ⟨b, off + k * 4, none⟩) hb).trans h0
      have q1 := (hnx.cell (p := ⟨b, off + k * 4 + 1, none⟩) hb).trans h1
      have q2 := (hnx.cell (p := ⟨b, off + k * 4 + 2, none⟩) hb).trans h2
      have q3 := (hnx.cell (p := ⟨b, off + k * 4 + 3, none⟩) hb).trans h3
      have sc := toN_any (N.getD k nd0) (.slice ua un uc) wr (h4.up hnx (Nat.le_refl _))
      clear h0 h1 h2 h3 h4
      have put := Lib.hid (fun (W : World) (H : NdK W w.heap.size w.heap.size n k N) (b : Nat) (u : Value) => NdK.put (b := b) (u := u) H hlt)
      unfold NdCPost ndv at sc
      generalize N.getD k nd0 = x at q0 q1 q2 put sc
      obtain ⟨⟨p, r⟩, s, C⟩ := x
      dsimp only at q0 q1 q2 sc
      have hnx := Lib.hid hnx
      have hs := Lib.hid hM.out.lt
      go_wp2_with fail
      refine sc.mono ?_
      rintro e w1 ⟨b1, cap, hb1, rfl, hO1, B⟩
      have hK := hM.out.up B
      obtain ⟨⟨y0, d0⟩, f0⟩ := hK.old (j := k * 4) (by omega)
      obtain ⟨⟨y1, d1⟩, f1⟩ := hK.old (j := k * 4 + 1) (by omega)
      obtain ⟨⟨y2, d2⟩, f2⟩ := hK.old (j := k * 4 + 2) (by omega)
      obtain ⟨⟨y3, d3⟩, f3⟩ := hK.old (j := k * 4 + 3) (by omega)
      have hs1 := hK.lt
      have R := Lib.hid (put.out w1 hK b1 _ (Nat.le_trans hnx.out.size hb1) (by have := hs.out; omega) hO1)
      have D1 := Lib.hid (hnx.out.trans (B.mono hnx.out.size))
      clear hM h hO1 B hnx q0 q1 q2 q3 hs hK sc put hb1
      go_wp2_with fail
      go_roundw
      case rel => exact ⟨k + 1, by omega, by go_num, Lib.hid R.out, (((D1.out.setCell (by simp) _).setCell (by simp) _).setCell (by simp) _).setCell (by simp) _⟩
      case measure => simp [intOf]; omega
    · obtain rfl : k = n := by omega
      have hnx := Lib.hid hnx
      clear h
      go_wp2_with fail
      go_ret
      refine ⟨_, rfl, ?_, hnx.out⟩
      obtain ⟨cur, t, h1, h2, h3⟩ := hM.out
      exact ⟨w.heap.size, k, cur, t, by have e := hn.out; subst e; rfl, Nat.le_refl _, h1, by rw [hn.out]; exact Nat.le_refl _, by rw [hn.out]; exact hm, fun i hi => h3 i (by rw [← hn.out]; exact hi)⟩

set_option maxRecDepth 100000 in
theorem toNs_nil (a : Option Addr) (ca : Nat) (w : World) :
    Calls Tryd.prog 32 #[.slice a 0 ca] w (NdsCPost [] w) := by
  have hmk : ∀ w : World, (Instr.makeSlice 23 (.int .i64 0) (.int .i64 0)).run Tryd.prog w = .ok (.slice (some ⟨w.heap.size, 0, none⟩) 0 0) (w.alloc (.cells (madeCells #[.int .i64 0, .int .i64 0, .int .i64 0, .slice none 0 0] (0 * 4)) 32)) := made_nds 0 (by omega)
  have hO := Lib.hid (ndK_made w 0 [] 32)
  go_enter Tryd.func32, Tryd.ntmps32
  go_wp2_with fail
  refine wp_loop_rounds 1 ?_
  rw [rounds_succ]
  go_wp2_with fail
  go_ret
  obtain ⟨cur, t, h1, h2, h3⟩ := hO.out
  exact ⟨_, rfl, ⟨_, 0, cur, t, rfl, Nat.le_refl _, h1, Nat.le_refl _, Nat.zero_le _, h3⟩, (Below.refl _ _).alloc (Nat.le_refl _) _⟩

/-- A COPY OF NODES. -/
theorem toNs_any (u : Value) (N : List Nd) (w : World) (h : Nds w u N) :
    Calls Tryd.prog 32 #[u] w (NdsCPost N w) := by
  obtain ⟨a, cap, rfl, h1, h2, h3⟩ := h
  rcases h3 with h3 | ⟨b, off, rfl, h4, h5⟩
  · obtain rfl : N = [] := List.length_eq_zero_iff.1 h3
    exact toNs_nil a cap w
  · exact toNs_at b off cap N w h4 h2 h5
end Go.Proofs.YtbbnchodchgioaaDoor

/- Draws of nodes: rows of nodes that are being built. -/
namespace Go.Proofs.YtbbnchodchgioaaDoor
open Go.RowKit
set_option linter.unusedVariables false

theorem Row.stays {w w' : World} {B r : Nat} {v : Value} {O : List Pid} (h : Row w B v O) (hk : Keep w.heap.size r w w') (hr : r < B) : Row w' B v O := ⟨row_keep h.1 hk hr, h.2⟩
theorem Rd.drewS {w : World} {r n : Nat} (h : Rd w r n) : Rd w.drew r n := h.kept ⟨rfl, rfl, rfl, Nat.le_refl _, fun _ _ => rfl⟩
theorem Keep.drewS {B r : Nat} {a w : World} (h : Keep B r a w) : Keep B r a w.drew := ⟨h.os, h.tape, h.output, h.size, h.block⟩
/-- A block's kind. -/
def TyB (w : World) (b : Nat) (t : TypeId) : Prop := ∃ cur, w.heap[b]? = some (.cells cur t (0, 0))
theorem TyB.ne {w : World} {b c : Nat} {t u : TypeId} (h : TyB w b t) (g : TyB w c u) (hn : t ≠ u) : b ≠ c := fun e => by
  obtain ⟨_, h⟩ := h; obtain ⟨_, g⟩ := g; subst e; rw [h] at g; simp at g; exact hn g.2
theorem TyB.lt {w : World} {b : Nat} {t : TypeId} (h : TyB w b t) : b < w.heap.size := by obtain ⟨_, h⟩ := h; exact lt_of_heap h
theorem TyB.same {w w' : World} {b : Nat} {t : TypeId} (h : TyB w b t) (e : w'.heap[b]? = w.heap[b]?) : TyB w' b t := by obtain ⟨c, h⟩ := h; exact ⟨c, e.trans h⟩
theorem ownr_typ {w : World} {B : Nat} {e : TypeId} {size : Nat} {v : Value} {n : Nat} {xs : List Value} (h : w.ownsRow B e size v n xs) {k : Nat} (hk : v.ownBlock = some k) : TyB w k e ∧ B ≤ k := by
  rcases h.2 with ⟨rfl, _⟩ | ⟨g, cap, cur, rfl, hb, hg, _⟩
  · simp [Value.ownBlock] at hk
  · simp [Value.ownBlock] at hk; subst hk; exact ⟨⟨cur, hg⟩, hb⟩
theorem ownr_same {w w' : World} {B : Nat} {e : TypeId} {size : Nat} {v : Value} {n : Nat} {xs : List Value} (h : w.ownsRow B e size v n xs) (hs : ∀ k, v.ownBlock = some k → w'.heap[k]? = w.heap[k]?) : w'.ownsRow B e size v n xs := by
  refine ⟨h.1, ?_⟩
  rcases h.2 with hn | ⟨g, cap, cur, rfl, hb, hg, rest⟩
  · exact .inl hn
  · exact .inr ⟨g, cap, cur, rfl, hb, (hs g rfl).trans hg, rest⟩
theorem Row.ownT {w : World} {B : Nat} {v : Value} {O : List Pid} (h : Row w B v O) (hl : O.length ≤ 2000000) : ∃ b, B ≤ b ∧ TyB w b 25 ∧ OwnP w b v O := by
  obtain ⟨b, hb, hO⟩ := h.own hl
  have e : v.ownBlock = some b := by obtain ⟨c, rfl, _⟩ := hO.shape; rfl
  exact ⟨b, hb, (ownr_typ h.1 e).1, hO⟩

/-- Nodes with the values of their lists. -/
abbrev DL : Type := List (Nd × Value)
def dcell (x : Nd × Value) : List Value := [.int .i64 x.1.id.1, .int .i64 x.1.id.2, .int .i64 x.1.seq, x.2]
def flatD : DL → List Value
  | [] => []
  | x :: r => dcell x ++ flatD r
theorem flatD_app : ∀ (A B : DL), flatD (A ++ B) = flatD A ++ flatD B
  | [], B => rfl
  | c :: r, B => by simp [flatD, flatD_app r B]
theorem flatD_len : ∀ L : DL, (flatD L).length = L.length * 4
  | [] => rfl
  | c :: r => by simp [flatD, dcell, flatD_len r]; omega
def dz : Nd × Value := (nd0, .slice none 0 0)
theorem flatD_get : ∀ (L : DL) (i j : Nat), i < L.length → j < 4 → (flatD L)[i * 4 + j]? = (dcell (L.getD i dz))[j]?
  | [], i, j, h, _ => absurd h (by simp)
  | x :: r, 0, j, _, hj => by
    rw [flatD, Nat.zero_mul, Nat.zero_add, List.getElem?_append_left (by simpa [dcell] using hj)]; rfl
  | x :: r, i + 1, j, h, hj => by
    have ih := flatD_get r i j (by simpa using h) hj
    rw [flatD, List.getElem?_append_right (by simp [dcell]; omega)]
    have e : (i + 1) * 4 + j - (dcell x).length = i * 4 + j := by simp [dcell]; omega
    rw [e, ih]; rfl

/-- A slice of nodes that is being built. -/
structure NR (w : World) (B : Nat) (v : Value) (L : DL) : Prop where
  row : w.ownsRow B 32 4 v L.length (flatD L)
  nn : v ≠ .slice none 0 0
  deps : ∀ x ∈ L, ∃ b, B ≤ b ∧ v.ownBlock ≠ some b ∧ OwnP w b x.2 x.1.deps
theorem nr_new (w : World) (B : Nat) (hB : B ≤ w.heap.size) : NR (w.alloc (.cells #[] 32)) B (.slice (some ⟨w.heap.size, 0, none⟩) 0 0) [] :=
  ⟨World.ownsRow_made _ #[] 0 hB (Nat.zero_le _) rfl, by simp, fun _ h => nomatch h⟩
section
variable {w w' : World} {B : Nat} {v : Value} {L : DL}
theorem NR.same (h : NR w B v L) (hk : ∀ b, B ≤ b → b < w.heap.size → w'.heap[b]? = w.heap[b]?) : NR w' B v L := by
  refine ⟨ownr_same h.row fun k hk' => hk k (ownr_typ h.row hk').2 (ownr_typ h.row hk').1.lt, h.nn, fun x hx => ?_⟩
  obtain ⟨b, h1, h2, h3⟩ := h.deps x hx
  exact ⟨b, h1, h2, h3.same (hk b h1 h3.lt)⟩
theorem NR.up (h : NR w B v L) (hb : Below w.heap.size w w') : NR w' B v L := h.same fun b _ hl => hb.block b hl
theorem NR.keep {r : Nat} (h : NR w B v L) (hk : Keep w.heap.size r w w') (hr : r < B) : NR w' B v L := h.same fun b hb hl => hk.block b hl (by omega)
theorem NR.put (h : NR w B v L) {o : Obj} {v' : Value} {x : Nd × Value} (hown : w'.ownsRow B 32 4 v' (L.length + 1) (flatD L ++ dcell x)) (hg : (w.alloc o).grownBy w' (Value.ownBlock v)) (hn : v' ≠ .slice none 0 0)
    (hat : v'.ownBlock = v.ownBlock ∨ v'.ownBlock = some (w.heap.size + 1)) (hx : ∃ b, B ≤ b ∧ v.ownBlock ≠ some b ∧ OwnP w b x.2 x.1.deps) : NR w' B v' (L ++ [x]) := by
  have keep : ∀ b, b < w.heap.size → v.ownBlock ≠ some b → w'.heap[b]? = w.heap[b]? := fun b hl hne =>
    (hg.block b (by simp; omega) (fun e => hne e.symm)).trans (Below.heap_alloc _ _ _ hl)
  refine ⟨by rw [flatD_app, List.length_append]; simpa [flatD] using hown, hn, fun y hy => ?_⟩
  have hh : ∃ b, B ≤ b ∧ v.ownBlock ≠ some b ∧ OwnP w b y.2 y.1.deps := by
    rcases List.mem_append.1 hy with hy | hy
    · exact h.deps y hy
    · rw [List.mem_singleton] at hy; rw [hy]; exact hx
  obtain ⟨b, h1, h2, h3⟩ := hh
  refine ⟨b, h1, ?_, h3.same (keep b h3.lt h2)⟩
  rcases hat with e | e
  · rw [e]; exact h2
  · rw [e]; intro e'; injection e' with e'; have := h3.lt; omega
/-- What an append leaves of other blocks. -/
theorem NR.grown (h : NR w B v L) {o : Obj} (hg : (w.alloc o).grownBy w' (Value.ownBlock v)) (hB : B ≤ w.heap.size) : Below B w w' := by
  have a := (Below.refl B w).alloc hB o
  exact a.trans ⟨hg.os, hg.tape, hg.output, hg.size, fun k hk => hg.block k (by have := a.size; omega) (fun e => absurd (ownr_typ h.row e.symm).2 (by omega))⟩
theorem mapf_getD {L : DL} {i : Nat} (hi : i < L.length) : (L.map Prod.fst).getD i nd0 = (L.getD i dz).1 := by
  rw [List.getD_eq_getElem?_getD, List.getD_eq_getElem?_getD, List.getElem?_map, List.getElem?_eq_getElem hi]; rfl
theorem NR.ndo (h : NR w B v L) (hl : L.length ≤ 2000000) : NdO w B v (L.map Prod.fst) := by
  rcases h.row.2 with ⟨rfl, _⟩ | ⟨g, cap, cur, rfl, hb, hg, hc, hm, hs, ht⟩
  · exact absurd rfl h.nn
  · refine ⟨g, cap, cur, _, by rw [List.length_map], hb, hg, by rw [List.length_map]; exact hc, by rw [List.length_map]; exact hl, fun i hi => ?_⟩
    rw [List.length_map] at hi
    rw [mapf_getD hi]
    have hx : L.getD i dz ∈ L := by rw [List.getD_eq_getElem?_getD, List.getElem?_eq_getElem hi]; exact List.getElem_mem hi
    have hk : ∀ j, j < 4 → cur[i * 4 + j]? = (dcell (L.getD i dz))[j]? := fun j hj => by
      rw [← flatD_get L i j hi hj, ← ht, List.getElem?_take, if_pos (by omega)]; simp
    obtain ⟨b, h1, h2, h3⟩ := h.deps _ hx
    exact ⟨hk 0 (by omega), hk 1 (by omega), hk 2 (by omega), b, _, h1, fun e => h2 (by rw [e]; rfl), hk 3 (by omega), h3⟩
end
theorem OwnP.cons {w : World} {b : Nat} {u : Value} {C : List Pid} (h : OwnP w b u C) {r : Nat} {w' : World} (hk : Keep w.heap.size r w w') (hr : b ≠ r) : OwnP w' b u C := h.same (hk.block b h.lt hr)
theorem put_pos (L : List Pid) (a : Pid) : 0 < (putP L a).length := List.length_pos_of_mem ((mem_putP L a a).2 (.inl rfl))

/-- Where the loop over the nodes is. -/
structure ZS (w wr : World) (r m : Nat) (cb cc : Nat) (C : List Pid) (vo : Value) (L : DL) : Prop where
  rd : Rd wr r m
  kp : Keep w.heap.size r w wr
  ids : OwnP wr cb (.slice (some ⟨cb, 0, none⟩) C.length cc) C
  cb0 : w.heap.size ≤ cb
  ne : vo.ownBlock ≠ some cb
  nr : NR wr w.heap.size vo L
/-- .. and with the node at hand: its box, its list. -/
structure YS (wO wr : World) (r m xb : Nat) (p q s : Int) (du rv : Value) (D : List Pid) : Prop where
  rd : Rd wr r m
  kp : Keep wO.heap.size r wO wr
  row : Row wr wO.heap.size rv D
  box : wr.heap[xb]? = some (.cells #[.int .i64 p, .int .i64 q, .int .i64 s, du] 32 (0, 0))
  xl : wO.heap.size ≤ xb
section
variable {w wO wr w' : World} {r m cb cc xb : Nat} {C D : List Pid} {vo du rv : Value} {L : DL} {p q s : Int}
theorem ZS.keep (h : ZS w wr r m cb cc C vo L) (hr : r < w.heap.size) {m' : Nat} (hrd : Rd w' r m') (hk : Keep wr.heap.size r wr w') : ZS w w' r m' cb cc C vo L :=
  ⟨hrd, h.kp.trans (hk.mono h.kp.size), h.ids.cons hk (by have := h.cb0; omega), h.cb0, h.ne, h.nr.keep hk hr⟩
theorem YS.keep (h : YS wO wr r m xb p q s du rv D) (hr : r < wO.heap.size) {m' : Nat} (hrd : Rd w' r m') (hk : Keep wr.heap.size r wr w') : YS wO w' r m' xb p q s du rv D :=
  ⟨hrd, h.kp.trans (hk.mono h.kp.size), h.row.stays hk hr, (hk.block xb (lt_of_heap h.box) (by have := h.xl; omega)).trans h.box, h.xl⟩
theorem YS.low (h : YS wO wr r m xb p q s du rv D) (hr : r < wO.heap.size) (hb : Below wr.heap.size wr w') : YS wO w' r m xb p q s du rv D :=
  h.keep hr (h.rd.kept (hb.mono (Nat.succ_le_of_lt h.rd.lt))) (Keep.of_below hb)
theorem YS.app (h : YS wO wr r m xb p q s du rv D) (hr : r < wO.heap.size) {x y : Int} {o : Obj} {v' : Value}
    (hown : w'.ownsRow wO.heap.size 25 2 v' (D.length + 1) (flatP D ++ [.int .i64 x, .int .i64 y])) (hg : (wr.alloc o).grownBy w' (Value.ownBlock rv)) (hn : v' ≠ .slice none 0 0) : YS wO w' r m xb p q s du v' (D ++ [(x, y)]) := by
  have hU := h.low hr ((Below.refl wr.heap.size wr).alloc (Nat.le_refl _) o)
  have B4 := grown_below hU.row hg hU.kp.size
  refine ⟨hU.rd.kept (B4.mono (by omega)), hU.kp.trans (Keep.of_below B4), hU.row.put hown hn, ?_, h.xl⟩
  exact (hg.block xb (lt_of_heap hU.box) (fun e => absurd rfl (TyB.ne ⟨_, hU.box⟩ (ownr_typ hU.row.1 e.symm).1 (by decide)))).trans hU.box
theorem YS.store (h : YS wO wr r m xb p q s du rv D) (hr : r < wO.heap.size) : YS wO (wr.setCell ⟨xb, 3, none⟩ rv) r m xb p q s rv rv D := by
  have b := (Below.refl wO.heap.size wr).setCell (p := ⟨xb, 3, none⟩) h.xl rv
  refine ⟨h.rd.kept (b.mono (by omega)), h.kp.trans (Keep.of_below b), ⟨ownr_same h.row.1 fun k hk => ?_, h.row.2⟩, ?_, h.xl⟩
  · exact heap_setCell_other _ _ _ _ fun e => absurd e ((ownr_typ h.row.1 hk).1.ne ⟨_, h.box⟩ (by decide))
  · simpa using heap_setCell_same wr xb 3 _ _ rv h.box
theorem four_b {w : World} {b : Nat} {x y z u : Value} {t : TypeId} (h : w.heap[b]? = some (.cells #[x, y, z, u] t (0, 0))) : w.cell? ⟨b, 0, none⟩ = some x ∧ w.cell? ⟨b, 1, none⟩ = some y ∧ w.cell? ⟨b, 2, none⟩ = some z ∧ w.cell? ⟨b, 3, none⟩ = some u ∧ w.frozen? ⟨b, 3, none⟩ = false := by
  refine ⟨?_, ?_, ?_, ?_, ?_⟩ <;> simp [World.cell?, World.frozen?, h]
theorem four_z {w : World} {b : Nat} {x y z u : Value} {t : TypeId} (h : w.heap[b]? = some (.cells #[x, y, z, u] t (0, 0))) : (w.cell? ⟨b, 0, none⟩ = some x ∧ w.cell? ⟨b, 1, none⟩ = some y ∧ w.cell? ⟨b, 2, none⟩ = some z ∧ w.cell? ⟨b, 3, none⟩ = some u) ∧ w.frozen? ⟨b, 0, none⟩ = false ∧ w.frozen? ⟨b, 1, none⟩ = false ∧ w.frozen? ⟨b, 2, none⟩ = false ∧ w.frozen? ⟨b, 3, none⟩ = false := by
  refine ⟨⟨?_, ?_, ?_, ?_⟩, ?_, ?_, ?_, ?_⟩ <;> simp [World.cell?, World.frozen?, h]
theorem ZS.of (h : ZS w wO r m cb cc C vo L) (hr : r < w.heap.size) {m' : Nat} (g : YS wO wr r m' xb p q s du rv D) : ZS w wr r m' cb cc C vo L := h.keep hr g.rd g.kp
end
theorem kp_cell {wO w' : World} {r b o : Nat} {v : Value} (hk : Keep wO.heap.size r wO w') (hb : b < wO.heap.size) (hne : b ≠ r) (h : wO.cell? ⟨b, o, none⟩ = some v) : w'.cell? ⟨b, o, none⟩ = some v :=
  (World.cell?_of_block (a := ⟨b, o, none⟩) (hk.block b hb hne)).trans h
/-- A list and a box that are being made, in any order. -/
structure PS (wO W : World) (r m : Nat) (on ox : Option Nat) : Prop where
  rd : Rd W r m
  kp : Keep wO.heap.size r wO W
  li : ∀ b, on = some b → wO.heap.size ≤ b ∧ W.heap[b]? = some (.cells #[] 25 (0, 0))
  bx : ∀ b, ox = some b → wO.heap.size ≤ b ∧ W.heap[b]? = some (.cells #[.int .i64 0, .int .i64 0, .int .i64 0, .slice none 0 0] 32 (0, 0))
section
variable {wO W w' : World} {r m : Nat} {on ox : Option Nat}
theorem PS.start (h : Rd wO r m) : PS wO wO.drew r m none none := ⟨Rd.drewS h, (Keep.refl _ _ _).drewS, fun _ h => (nomatch h), fun _ h => nomatch h⟩
theorem PS.keep (h : PS wO W r m on ox) (hr : r < wO.heap.size) {m' : Nat} (hrd : Rd w' r m') (hk : Keep W.heap.size r W w') : PS wO w' r m' on ox :=
  ⟨hrd, h.kp.trans (hk.mono h.kp.size), fun b e => ⟨(h.li b e).1, (hk.block b (lt_of_heap (h.li b e).2) (by have := (h.li b e).1; omega)).trans (h.li b e).2⟩, fun b e => ⟨(h.bx b e).1, (hk.block b (lt_of_heap (h.bx b e).2) (by have := (h.bx b e).1; omega)).trans (h.bx b e).2⟩⟩
theorem PS.list (h : PS wO W r m on ox) (hr : r < wO.heap.size) : PS wO (W.alloc (.cells #[] 25)) r m (some W.heap.size) ox := by
  have g := h.keep hr (h.rd.alloc (.cells #[] 25)) (Keep.of_below ((Below.refl W.heap.size W).alloc (Nat.le_refl _) (.cells #[] 25)))
  exact ⟨g.rd, g.kp, fun b e => by injection e with e; subst e; exact ⟨h.kp.size, heap_alloc_new W _⟩, g.bx⟩
theorem PS.box (h : PS wO W r m on ox) (hr : r < wO.heap.size) : PS wO (W.alloc (.cells #[.int .i64 0, .int .i64 0, .int .i64 0, .slice none 0 0] 32)) r m on (some W.heap.size) := by
  have g := h.keep hr (h.rd.alloc (.cells #[.int .i64 0, .int .i64 0, .int .i64 0, .slice none 0 0] 32)) (Keep.of_below ((Below.refl W.heap.size W).alloc (Nat.le_refl _) (.cells #[.int .i64 0, .int .i64 0, .int .i64 0, .slice none 0 0] 32)))
  exact ⟨g.rd, g.kp, g.li, fun b e => by injection e with e; subst e; exact ⟨h.kp.size, heap_alloc_new W _⟩⟩
theorem PS.made {nb xb : Nat} (h : PS wO W r m (some nb) (some xb)) (hr : r < wO.heap.size) (p q s : Int) :
    YS wO ((((W.setCell ⟨xb, 0, none⟩ (.int .i64 p)).setCell ⟨xb, 1, none⟩ (.int .i64 q)).setCell ⟨xb, 2, none⟩ (.int .i64 s)).setCell ⟨xb, 3, none⟩ (.slice (some ⟨nb, 0, none⟩) 0 0)) r m xb p q s (.slice (some ⟨nb, 0, none⟩) 0 0) (.slice (some ⟨nb, 0, none⟩) 0 0) [] := by
  obtain ⟨l0, l1⟩ := h.li nb rfl
  obtain ⟨x0, x1⟩ := h.bx xb rfl
  have hne : nb ≠ xb := TyB.ne ⟨_, l1⟩ ⟨_, x1⟩ (by decide)
  have b : Below wO.heap.size W ((((W.setCell ⟨xb, 0, none⟩ (.int .i64 p)).setCell ⟨xb, 1, none⟩ (.int .i64 q)).setCell ⟨xb, 2, none⟩ (.int .i64 s)).setCell ⟨xb, 3, none⟩ (.slice (some ⟨nb, 0, none⟩) 0 0)) :=
    (((((Below.refl wO.heap.size W).setCell (p := ⟨xb, 0, none⟩) x0 _).setCell (p := ⟨xb, 1, none⟩) x0 _).setCell (p := ⟨xb, 2, none⟩) x0 _).setCell (p := ⟨xb, 3, none⟩) x0 _)
  refine ⟨h.rd.kept (b.mono (by omega)), h.kp.trans (Keep.of_below b), ⟨⟨rfl, .inr ⟨nb, 0, #[], rfl, l0, ?_, Nat.le_refl _, Nat.zero_le _, rfl, rfl⟩⟩, by simp⟩, ?_, x0⟩
  · rw [heap_setCell_other _ _ _ _ hne, heap_setCell_other _ _ _ _ hne, heap_setCell_other _ _ _ _ hne, heap_setCell_other _ _ _ _ hne]; exact l1
  · have e := heap_setCell_same _ xb 3 _ _ (.slice (some ⟨nb, 0, none⟩) 0 0) (heap_setCell_same _ xb 2 _ _ (.int .i64 s) (heap_setCell_same _ xb 1 _ _ (.int .i64 q) (heap_setCell_same W xb 0 _ _ (.int .i64 p) x1)))
    simpa using e
end
theorem two_src (w : World) (t : TypeId) (x y : Value) (n : Nat) (hn : n = w.heap.size) : ∀ j u, [x, y][j]? = some u → (w.alloc (.cells #[x, y] t)).cell? ((⟨n, 0, none⟩ : Addr).add j) = some u := two_cells w t x y n hn
theorem two_one (x y : Int) : ∀ u ∈ [Value.int .i64 x, Value.int .i64 y], u.oneCell' = true := by
  intro u hu; simp at hu; rcases hu with rfl | rfl <;> rfl
/-- The node at hand, its list made. -/
structure ES (wO wr : World) (r m xb : Nat) (p q s : Int) (du : Value) (D : List Pid) : Prop where
  rd : Rd wr r m
  kp : Keep wO.heap.size r wO wr
  box : wr.heap[xb]? = some (.cells #[.int .i64 p, .int .i64 q, .int .i64 s, du] 32 (0, 0))
  li : ∃ b, wO.heap.size ≤ b ∧ OwnP wr b du D
section
variable {w wO wr w' : World} {r m cb cc xb : Nat} {C D : List Pid} {vo du : Value} {L : DL} {p q s : Int}
theorem YS.es (h : YS wO wr r m xb p q s du du D) (hl : D.length ≤ 2000000) : ES wO wr r m xb p q s du D := ⟨h.rd, h.kp, h.box, h.row.own hl⟩
theorem YS.redo (h : YS wO wr r m xb p q s du du D) (hr : r < wO.heap.size) {b : Nat} {u : Value} {D' : List Pid} (hb : wr.heap.size ≤ b) (B : Below wr.heap.size wr w') (hO : OwnP w' b u D') : ES wO (w'.setCell ⟨xb, 3, none⟩ u) r m xb p q s u D' := by
  have h' := h.low hr B
  have hx := lt_of_heap h.box
  have bb := (Below.refl wO.heap.size w').setCell (p := ⟨xb, 3, none⟩) h.xl u
  have hs := h.kp.size
  refine ⟨h'.rd.kept (bb.mono (by omega)), h'.kp.trans (Keep.of_below bb), ?_, b, by omega, hO.same (heap_setCell_other _ _ _ _ (by show b ≠ xb; omega))⟩
  simpa using heap_setCell_same w' xb 3 _ _ u h'.box
theorem ES.zs {m' : Nat} (h : ES wO wr r m xb p q s du D) (hZ : ZS w wO r m' cb cc C vo L) (hr : r < w.heap.size) : ZS w wr r m cb cc C vo L := hZ.keep hr h.rd h.kp
theorem ES.put {m' : Nat} (h : ES wO wr r m xb p q s du D) (hZ : ZS w wO r m' cb cc C vo L) (hr : r < w.heap.size) {o : Obj} {v' : Value}
    (hown : w'.ownsRow w.heap.size 32 4 v' (L.length + 1) (flatD L ++ [.int .i64 p, .int .i64 q, .int .i64 s, du])) (hg : (wr.alloc o).grownBy w' (Value.ownBlock vo)) (hn : v' ≠ .slice none 0 0)
    (hat : v'.ownBlock = vo.ownBlock ∨ v'.ownBlock = some (wr.heap.size + 1)) : ZS w w' r m cb cc C v' (L ++ [(⟨(p, q), s, D⟩, du)]) := by
  have Z := h.zs hZ hr
  have B4 := Z.nr.grown hg Z.kp.size
  obtain ⟨b, hb, hO⟩ := h.li
  have hcl := Z.ids.lt
  refine ⟨Z.rd.kept (B4.mono (by omega)), Z.kp.trans (Keep.of_below B4), Z.ids.same ((hg.block cb (by simp; omega) (fun e => Z.ne e.symm)).trans (Below.heap_alloc _ _ _ hcl)), Z.cb0, ?_, Z.nr.put (x := (⟨(p, q), s, D⟩, du)) hown hg hn hat ⟨b, Nat.le_trans hZ.kp.size hb, fun e => ?_, hO⟩⟩
  · rcases hat with e | e
    · rw [e]; exact Z.ne
    · rw [e]; intro e'; injection e' with e'; omega
  · have := (ownr_typ hZ.nr.row e).1.lt; omega
end
/-- A node's list is put in another's place. -/
theorem NdO.setd {w : World} {B : Nat} {v : Value} {N : List Nd} (h : NdO w B v N) {k : Nat} (hk : k < N.length) {b : Nat} {u : Value} {D : List Pid} (hB : B ≤ b) (hne : v.ownBlock ≠ some b) (hO : OwnP w b u D) {g n cap : Nat} (hv : v = .slice (some ⟨g, 0, none⟩) n cap) :
    NdO (w.setCell ⟨g, k * 4 + 3, none⟩ u) B v (N.set k ⟨(N.getD k nd0).id, (N.getD k nd0).seq, D⟩) := by
  obtain ⟨g', cap', cur, t, e, h0, hg, h1, h2, h3⟩ := h
  rw [hv] at e; injection e with e1 e2 e3; injection e1 with e1; injection e1 with e1
  subst e1; subst e2; subst e3; subst hv
  have hbg : b ≠ g := fun e => hne (by rw [e]; rfl)
  have hsz : k * 4 + 3 < cur.size := by
    obtain ⟨_, _, _, _, _, _, _, c3, _⟩ := h3 k hk
    rcases Nat.lt_or_ge (k * 4 + 3) cur.size with hh | hh
    · exact hh
    · rw [Array.getElem?_eq_none hh] at c3; exact absurd c3 (by simp)
  have oth : ∀ c, c ≠ g → (w.setCell ⟨g, k * 4 + 3, none⟩ u).heap[c]? = w.heap[c]? := fun c hc => heap_setCell_other _ _ _ _ hc
  refine ⟨g, cap, _, t, by rw [List.length_set], h0, heap_setCell_same w g (k * 4 + 3) cur t u hg, by rw [List.length_set]; exact h1, by rw [List.length_set]; exact h2, fun i hi => ?_⟩
  rw [List.length_set] at hi
  by_cases e : i = k
  · subst e
    obtain ⟨c0, c1, c2, _⟩ := h3 i hi
    have hs : (N.set i ⟨(N.getD i nd0).id, (N.getD i nd0).seq, D⟩).getD i nd0 = ⟨(N.getD i nd0).id, (N.getD i nd0).seq, D⟩ := by
      rw [List.getD_eq_getElem?_getD, List.getElem?_set_self hi]; rfl
    rw [hs]
    refine ⟨?_, ?_, ?_, b, u, hB, hbg, ?_, hO.same (oth b hbg)⟩
    · rw [Array.getElem?_setIfInBounds, if_neg (by omega)]; exact c0
    · rw [Array.getElem?_setIfInBounds, if_neg (by omega)]; exact c1
    · rw [Array.getElem?_setIfInBounds, if_neg (by omega)]; exact c2
    · rw [Array.getElem?_setIfInBounds, if_pos rfl, if_pos hsz]
  · obtain ⟨c0, c1, c2, b', u', q1, q2, c3, ho⟩ := h3 i hi
    have hs : (N.set k ⟨(N.getD k nd0).id, (N.getD k nd0).seq, D⟩).getD i nd0 = N.getD i nd0 := by
      rw [List.getD_eq_getElem?_getD, List.getElem?_set_ne (fun x => e x.symm), ← List.getD_eq_getElem?_getD]
    rw [hs]
    refine ⟨?_, ?_, ?_, b', u', q1, q2, ?_, ho.same (oth b' q2)⟩ <;> (rw [Array.getElem?_setIfInBounds, if_neg (by omega)]; assumption)
theorem NdO.keep {w w' : World} {B r : Nat} {v : Value} {N : List Nd} (h : NdO w B v N) (hk : Keep w.heap.size r w w') (hr : r < B) : NdO w' B v N := by
  obtain ⟨g, cap, cur, t, rfl, h0, hg, h1, h2, h3⟩ := h
  refine ⟨g, cap, cur, t, rfl, h0, (hk.block g (lt_of_heap hg) (by omega)).trans hg, h1, h2, fun i hi => ?_⟩
  obtain ⟨c0, c1, c2, b, u, q1, q2, c3, ho⟩ := h3 i hi
  exact ⟨c0, c1, c2, b, u, q1, q2, c3, ho.cons hk (by omega)⟩
theorem NdO.at_ {w : World} {B : Nat} {v : Value} {N : List Nd} (h : NdO w B v N) : ∃ g cap, v = .slice (some ⟨g, 0, none⟩) N.length cap ∧ B ≤ g ∧ g < w.heap.size ∧ N.length ≤ cap ∧ (∀ o, w.frozen? ⟨g, o, none⟩ = false) ∧ ∀ i, i < N.length → w.cell? ⟨g, i * 4, none⟩ = some (.int .i64 (N.getD i nd0).id.1) ∧ w.cell? ⟨g, i * 4 + 1, none⟩ = some (.int .i64 (N.getD i nd0).id.2) ∧ w.cell? ⟨g, i * 4 + 2, none⟩ = some (.int .i64 (N.getD i nd0).seq) ∧ ∃ u, w.cell? ⟨g, i * 4 + 3, none⟩ = some u := by
  obtain ⟨g, cap, cur, t, rfl, h0, hg, h1, h2, h3⟩ := h
  refine ⟨g, cap, rfl, h0, lt_of_heap hg, h1, fun o => by simp [World.frozen?, hg], fun i hi => ?_⟩
  obtain ⟨c0, c1, c2, b, u, q1, q2, c3, ho⟩ := h3 i hi
  rw [cell_of_cells hg, cell_of_cells hg, cell_of_cells hg, cell_of_cells hg]
  exact ⟨c0, c1, c2, u, c3⟩
theorem four_srcD (w : World) (t : TypeId) (x y z u : Value) (n : Nat) (hn : n = w.heap.size) : ∀ j v, [x, y, z, u][j]? = some v → (w.alloc (.cells #[x, y, z, u] t)).cell? ((⟨n, 0, none⟩ : Addr).add j) = some v := by
  subst hn
  intro j v hj
  match j, hj with
  | 0, hj => simp at hj; subst hj; simp [Addr.add]
  | 1, hj => simp at hj; subst hj; simp [Addr.add]
  | 2, hj => simp at hj; subst hj; simp [Addr.add]
  | 3, hj => simp at hj; subst hj; simp [Addr.add]
  | j + 4, hj => simp at hj
theorem four_oneD (x y z : Int) (a : Option Addr) (n c : Nat) : ∀ u ∈ [Value.int .i64 x, .int .i64 y, .int .i64 z, .slice a n c], u.oneCell' = true := by
  intro u hu; simp at hu; rcases hu with rfl | rfl | rfl | rfl <;> rfl
end Go.Proofs.YtbbnchodchgioaaDoor
