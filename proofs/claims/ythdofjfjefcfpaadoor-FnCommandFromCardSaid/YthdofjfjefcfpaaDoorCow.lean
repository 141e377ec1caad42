/- commandOfWords and CommandFrom, of the program. -/
import Derived.Test.YthdofjfjefcfpaaDoorNum
import Derived.Test.YthdofjfjefcfpaaDoorTextc
namespace Go.Proofs.YthdofjfjefcfpaaDoor
open Go.RowKit
set_option linter.unusedVariables false
set_option maxRecDepth 100000

theorem lit_ne {a : ByteArray} {l : List UInt8} (h : ¬ a = ⟨l.toArray⟩) : (a.toList == l) = false := by
  have := bytes_ne h
  rwa [ByteArray.toList_mk l] at this

/-- A block of words. -/
def Ws (w : World) (b : Nat) (ws : List ByteArray) : Prop := b < w.heap.size ∧ ∃ t, w.heap[b]? = some (.cells (ws.map Value.string).toArray t (0, 0))
theorem Ws.at {w : World} {b : Nat} {ws : List ByteArray} (h : Ws w b ws) (i : Nat) (x : ByteArray) (hx : ws[i]? = some x) : w.cell? ⟨b, i, none⟩ = some (.string x) := by
  obtain ⟨_, t, h⟩ := h
  simp [World.cell?, h, hx]

theorem cow_read (b : Nat) (x : ByteArray) (hx : x.size ≤ 2000000) (w : World) (hg : Gl w) (hw : Ws w b [⟨#[114, 101, 97, 100]⟩, x]) :
    Calls Tryd.prog 20 #[.slice (some ⟨b, 0, none⟩) 2 2] w fun e w' => e = .returned (.tuple #[.agg #[.int .i64 0, .int .i64 (numI x), .int .i64 0], .bool true]) ∧ Below w.heap.size w w' := by
  have h0 := hw.at 0 _ rfl
  have h1 := hw.at 1 _ rfl
  have hlt := hw.1
  have hg := Lib.hid hg
  clear hw
  go_enter Tryd.func20, Tryd.ntmps20
  go_wp2_with fail
  refine (numberFrom_any x hx _ (hg.out.up ((Below.refl _ _).alloc (Nat.le_refl _) _))).mono ?_
  rintro e w1 ⟨rfl, hb⟩
  obtain ⟨a1, a2, a3, f1, f2, f3⟩ := blk3 ((hb.block w.heap.size (by simp)).trans (heap_alloc_new w _))
  have D1 := Lib.hid (((Below.refl _ _).alloc (Nat.le_refl _) _).trans (hb.mono (by simp)))
  clear hb hg
  go_wp2_with fail
  exact bodyPost_ret (v := .tuple #[.agg #[.int .i64 0, .int .i64 (numI x), .int .i64 0], .bool true]) (by simp [results, Tryd.results20, go_sem, a1, a2, a3]) rfl ⟨rfl, by have X := D1.out; clear D1; repeat (first | with_reducible exact X | with_reducible refine Below.setCell ?_ (by simp) _)⟩

theorem cow_none (b : Nat) (w : World) (hw : Ws w b [⟨#[110, 111, 110, 101]⟩]) :
    Calls Tryd.prog 20 #[.slice (some ⟨b, 0, none⟩) 1 1] w fun e w' => e = .returned (.tuple #[.agg #[.int .i64 3, .int .i64 0, .int .i64 0], .bool true]) ∧ Below w.heap.size w w' := by
  have h0 := hw.at 0 _ rfl
  have hlt := hw.1
  clear hw
  go_enter Tryd.func20, Tryd.ntmps20
  go_wp2_with fail
  exact bodyPost_ret (v := .tuple #[.agg #[.int .i64 3, .int .i64 0, .int .i64 0], .bool true]) (by simp [results, Tryd.results20, go_sem]) rfl ⟨rfl, by repeat (first | with_reducible exact Below.refl _ _ | with_reducible refine Below.setCell ?_ (by first | (simp; done) | (simp; omega)) _ | with_reducible refine Below.alloc ?_ (by first | (simp; done) | (simp; omega)) _)⟩

set_option maxHeartbeats 2000000 in
theorem cow_put (b : Nat) (x y : ByteArray) (hx : x.size ≤ 2000000) (hy : y.size ≤ 2000000) (w : World) (hg : Gl w) (hw : Ws w b [⟨#[112, 117, 116]⟩, x, y]) :
    Calls Tryd.prog 20 #[.slice (some ⟨b, 0, none⟩) 3 3] w fun e w' => e = .returned (.tuple #[.agg #[.int .i64 1, .int .i64 (numI x), .int .i64 (numI y)], .bool true]) ∧ Below w.heap.size w w' := by
  have h0 := hw.at 0 _ rfl
  have h1 := hw.at 1 _ rfl
  have h2 := hw.at 2 _ rfl
  have hlt := hw.1
  have hg := Lib.hid hg
  clear hw
  go_enter Tryd.func20, Tryd.ntmps20
  go_upto_region 5 with fail
  refine wp_region_held_drew (S := fun w' => w'.cell? ⟨b, 1, none⟩ = some (.string x) ∧ w'.cell? ⟨b, 2, none⟩ = some (.string y) ∧ (∃ k key v : Int, w'.heap[w.heap.size]? = some (.cells #[.int .i64 k, .int .i64 key, .int .i64 v] 24 (0, 0))) ∧ Below w.heap.size w w') (by kernel_rfl) ⟨by go_simp, by go_simp, ⟨0, 0, 0, heap_alloc_new w _⟩, ((Below.refl _ _).alloc (Nat.le_refl _) _).drew⟩ (fun hHeld => ?_)
  refine wpAnyH_take (i := 0) (oi := ⟨some 30, _, _, _, _, _⟩) (v := ?_) rfl (by kernel_rfl) (by kernel_rfl) (by kernel_rfl) (fun _ _ _ h => h) (Or.inl ⟨by rfl, ?_⟩) (by assumption) ?_
  rotate_left 1
  · intro w hSw; (try dsimp only at hSw); go_simp; try (with_reducible rfl)
  try simp only [Act.put, List.setIfInBounds_toArray, List.set_cons_zero, List.set_cons_succ]
  refine wpAnyH_take (i := 1) (oi := ⟨some 31, _, _, _, _, _⟩) (v := ?_) rfl (by kernel_rfl) (by kernel_rfl) (by kernel_rfl) (fun _ _ _ h => h) (Or.inl ⟨by rfl, ?_⟩) (by assumption) ?_
  rotate_left 1
  · intro w hSw; (try dsimp only at hSw); go_simp; try (with_reducible rfl)
  try simp only [Act.put, List.setIfInBounds_toArray, List.set_cons_zero, List.set_cons_succ]
  refine wpAnyH_take (i := 2) (oi := ⟨some 32, _, _, _, _, _⟩) (v := ?_) rfl (by kernel_rfl) (by kernel_rfl) (by kernel_rfl) (fun _ _ _ h => h) (Or.inl ⟨by rfl, ?_⟩) (by assumption) ?_
  rotate_left 1
  · intro w hSw; (try dsimp only at hSw); go_simp; try (with_reducible rfl)
  try simp only [Act.put, List.setIfInBounds_toArray, List.set_cons_zero, List.set_cons_succ]
  refine wpAnyH_take (i := 4) (oi := ⟨some 34, _, _, _, _, _⟩) (v := ?_) rfl (by kernel_rfl) (by kernel_rfl) (by kernel_rfl) (fun _ _ _ h => h) (Or.inl ⟨by rfl, ?_⟩) (by assumption) ?_
  rotate_left 1
  · intro w hSw; (try dsimp only at hSw); go_simp; try (with_reducible rfl)
  try simp only [Act.put, List.setIfInBounds_toArray, List.set_cons_zero, List.set_cons_succ]
  refine wpAnyH_take (i := 5) (oi := ⟨some 35, _, _, _, _, _⟩) (v := ?_) rfl (by kernel_rfl) (by kernel_rfl) (by kernel_rfl) (fun _ _ _ h => h) (Or.inl ⟨by rfl, ?_⟩) (by assumption) ?_
  rotate_left 1
  · intro w hSw; (try dsimp only at hSw); go_simp; try (with_reducible rfl)
  try simp only [Act.put, List.setIfInBounds_toArray, List.set_cons_zero, List.set_cons_succ]
  refine wpAnyH_take (i := 6) (oi := ⟨some 36, _, _, _, _, _⟩) (v := ?_) rfl (by kernel_rfl) (by kernel_rfl) (by kernel_rfl) (fun _ _ _ h => h) (Or.inl ⟨by rfl, ?_⟩) (by assumption) ?_
  rotate_left 1
  · intro w hSw; (try dsimp only at hSw); go_simp; try (with_reducible rfl)
  try simp only [Act.put, List.setIfInBounds_toArray, List.set_cons_zero, List.set_cons_succ]
  refine wpAnyH_ready (rs := [3]) (by kernel_rfl) (by simp) ?_
  refine AllReadyH.cons (o := ⟨some 33, _, _, _, _, _⟩) rfl (fun K hK => ?_) AllReadyH.nil
  go_simp
  (with_reducible refine (numberFrom_any x hx _ (hg.out.up hHeld.2.2.2)).mono ?_)
  rintro e w1 ⟨rfl, hb⟩
  go_wp2_with fail
  refine hK.out _ _ ?_ (fun hHeld2 => ?_)
  · exact ⟨cell_later hb hHeld.1, cell_later hb hHeld.2.1, by obtain ⟨k, key, v, hk⟩ := hHeld.2.2.1; exact ⟨k, key, v, (hb.block _ (Array.getElem?_eq_some_iff.1 hk).1).trans hk⟩, hHeld.2.2.2.trans (hb.mono hHeld.2.2.2.size)⟩
  clear hK K hHeld hb
  have hHeld := hHeld2
  clear hHeld2
  try simp only [Act.put, List.setIfInBounds_toArray, List.set_cons_zero, List.set_cons_succ]
  refine wpAnyH_ready (rs := [7]) (by kernel_rfl) (by simp) ?_
  refine AllReadyH.cons (o := ⟨some 37, _, _, _, _, _⟩) rfl (fun K hK => ?_) AllReadyH.nil
  go_simp
  (with_reducible refine (numberFrom_any y hy _ (hg.out.up hHeld.2.2.2)).mono ?_)
  rintro e w2 ⟨rfl, hb⟩
  go_wp2_with fail
  refine hK.out _ _ ?_ (fun hHeld2 => ?_)
  · exact ⟨cell_later hb hHeld.1, cell_later hb hHeld.2.1, by obtain ⟨k, key, v, hk⟩ := hHeld.2.2.1; exact ⟨k, key, v, (hb.block _ (Array.getElem?_eq_some_iff.1 hk).1).trans hk⟩, hHeld.2.2.2.trans (hb.mono hHeld.2.2.2.size)⟩
  clear hK K hHeld hb
  have hHeld := hHeld2
  clear hHeld2
  try simp only [Act.put, List.setIfInBounds_toArray, List.set_cons_zero, List.set_cons_succ]
  refine wpAnyH_take (i := 8) (oi := ⟨some 38, _, _, _, _, _⟩) (v := ?_) rfl (by kernel_rfl) (by kernel_rfl) (by kernel_rfl) (fun _ _ _ h => h) (Or.inl ⟨by rfl, ?_⟩) (by assumption) ?_
  rotate_left 1
  · intro w hSw; (try dsimp only at hSw); go_simp; try (with_reducible rfl)
  try simp only [Act.put, List.setIfInBounds_toArray, List.set_cons_zero, List.set_cons_succ]
  obtain ⟨k0, k1, k2, hblk⟩ := hHeld.2.2.1
  obtain ⟨a1, a2, a3, f1, f2, f3⟩ := blk3 hblk
  refine wpAnyH_ready (rs := [9]) (by kernel_rfl) (by simp) ?_
  refine AllReadyH.cons (o := ⟨none, _, _, _, _, _⟩) rfl (fun K hK => ?_) AllReadyH.nil
  go_simp
  refine hK.out _ _ ?_ (fun hHeld2 => ?_)
  · refine ⟨?_, ?_, ⟨1, numI x, numI y, ?_⟩, ?_⟩
    · go_simp
    · go_simp
    · simp [World.setCell, Array.getElem?_modify, hblk]
    · exact ((hHeld.2.2.2.setCell (Nat.le_refl _) _).setCell (Nat.le_refl _) _).setCell (Nat.le_refl _) _
  clear hK K hHeld
  have hHeld := hHeld2
  clear hHeld2
  try simp only [Act.put, List.setIfInBounds_toArray, List.set_cons_zero, List.set_cons_succ]
  refine wpAnyH_take (i := 10) (oi := ⟨some 3, _, _, _, _, _⟩) (v := ?_) rfl (by kernel_rfl) (by kernel_rfl) (by kernel_rfl) (fun _ _ _ h => h) (Or.inl ⟨by rfl, ?_⟩) (by assumption) ?_
  rotate_left 1
  · intro w hSw; (try dsimp only at hSw); go_simp; try (with_reducible rfl)
  try simp only [Act.put, List.setIfInBounds_toArray, List.set_cons_zero, List.set_cons_succ]
  refine wpAnyH_done (by kernel_rfl) ?_ _
  try simp only [Act.put, List.setIfInBounds_toArray, List.set_cons_zero, List.set_cons_succ]
  go_wp2_with fail
  exact bodyPost_ret (v := .tuple #[.agg #[.int .i64 1, .int .i64 (numI x), .int .i64 (numI y)], .bool true]) (by simp [results, Tryd.results20, go_sem, a1, a2, a3]) rfl ⟨rfl, hHeld.2.2.2⟩

set_option maxHeartbeats 2000000 in
theorem cow_add (b : Nat) (x y : ByteArray) (hx : x.size ≤ 2000000) (hy : y.size ≤ 2000000) (w : World) (hg : Gl w) (hw : Ws w b [⟨#[97, 100, 100]⟩, x, y]) :
    Calls Tryd.prog 20 #[.slice (some ⟨b, 0, none⟩) 3 3] w fun e w' => e = .returned (.tuple #[.agg #[.int .i64 2, .int .i64 (numI x), .int .i64 (numI y)], .bool true]) ∧ Below w.heap.size w w' := by
  have h0 := hw.at 0 _ rfl
  have h1 := hw.at 1 _ rfl
  have h2 := hw.at 2 _ rfl
  have hlt := hw.1
  have hg := Lib.hid hg
  clear hw
  go_enter Tryd.func20, Tryd.ntmps20
  go_upto_region 7 with fail
  refine wp_region_held_drew (S := fun w' => w'.cell? ⟨b, 1, none⟩ = some (.string x) ∧ w'.cell? ⟨b, 2, none⟩ = some (.string y) ∧ (∃ k key v : Int, w'.heap[w.heap.size]? = some (.cells #[.int .i64 k, .int .i64 key, .int .i64 v] 24 (0, 0))) ∧ Below w.heap.size w w') (by kernel_rfl) ⟨by go_simp, by go_simp, ⟨0, 0, 0, heap_alloc_new w _⟩, ((Below.refl _ _).alloc (Nat.le_refl _) _).drew⟩ (fun hHeld => ?_)
  refine wpAnyH_take (i := 0) (oi := ⟨some 49, _, _, _, _, _⟩) (v := ?_) rfl (by kernel_rfl) (by kernel_rfl) (by kernel_rfl) (fun _ _ _ h => h) (Or.inl ⟨by rfl, ?_⟩) (by assumption) ?_
  rotate_left 1
  · intro w hSw; (try dsimp only at hSw); go_simp; try (with_reducible rfl)
  try simp only [Act.put, List.setIfInBounds_toArray, List.set_cons_zero, List.set_cons_succ]
  refine wpAnyH_take (i := 1) (oi := ⟨some 50, _, _, _, _, _⟩) (v := ?_) rfl (by kernel_rfl) (by kernel_rfl) (by kernel_rfl) (fun _ _ _ h => h) (Or.inl ⟨by rfl, ?_⟩) (by assumption) ?_
  rotate_left 1
  · intro w hSw; (try dsimp only at hSw); go_simp; try (with_reducible rfl)
  try simp only [Act.put, List.setIfInBounds_toArray, List.set_cons_zero, List.set_cons_succ]
  refine wpAnyH_take (i := 2) (oi := ⟨some 51, _, _, _, _, _⟩) (v := ?_) rfl (by kernel_rfl) (by kernel_rfl) (by kernel_rfl) (fun _ _ _ h => h) (Or.inl ⟨by rfl, ?_⟩) (by assumption) ?_
  rotate_left 1
  · intro w hSw; (try dsimp only at hSw); go_simp; try (with_reducible rfl)
  try simp only [Act.put, List.setIfInBounds_toArray, List.set_cons_zero, List.set_cons_succ]
  refine wpAnyH_take (i := 4) (oi := ⟨some 53, _, _, _, _, _⟩) (v := ?_) rfl (by kernel_rfl) (by kernel_rfl) (by kernel_rfl) (fun _ _ _ h => h) (Or.inl ⟨by rfl, ?_⟩) (by assumption) ?_
  rotate_left 1
  · intro w hSw; (try dsimp only at hSw); go_simp; try (with_reducible rfl)
  try simp only [Act.put, List.setIfInBounds_toArray, List.set_cons_zero, List.set_cons_succ]
  refine wpAnyH_take (i := 5) (oi := ⟨some 54, _, _, _, _, _⟩) (v := ?_) rfl (by kernel_rfl) (by kernel_rfl) (by kernel_rfl) (fun _ _ _ h => h) (Or.inl ⟨by rfl, ?_⟩) (by assumption) ?_
  rotate_left 1
  · intro w hSw; (try dsimp only at hSw); go_simp; try (with_reducible rfl)
  try simp only [Act.put, List.setIfInBounds_toArray, List.set_cons_zero, List.set_cons_succ]
  refine wpAnyH_take (i := 6) (oi := ⟨some 55, _, _, _, _, _⟩) (v := ?_) rfl (by kernel_rfl) (by kernel_rfl) (by kernel_rfl) (fun _ _ _ h => h) (Or.inl ⟨by rfl, ?_⟩) (by assumption) ?_
  rotate_left 1
  · intro w hSw; (try dsimp only at hSw); go_simp; try (with_reducible rfl)
  try simp only [Act.put, List.setIfInBounds_toArray, List.set_cons_zero, List.set_cons_succ]
  refine wpAnyH_ready (rs := [3]) (by kernel_rfl) (by simp) ?_
  refine AllReadyH.cons (o := ⟨some 52, _, _, _, _, _⟩) rfl (fun K hK => ?_) AllReadyH.nil
  go_simp
  (with_reducible refine (numberFrom_any x hx _ (hg.out.up hHeld.2.2.2)).mono ?_)
  rintro e w1 ⟨rfl, hb⟩
  go_wp2_with fail
  refine hK.out _ _ ?_ (fun hHeld2 => ?_)
  · exact ⟨cell_later hb hHeld.1, cell_later hb hHeld.2.1, by obtain ⟨k, key, v, hk⟩ := hHeld.2.2.1; exact ⟨k, key, v, (hb.block _ (Array.getElem?_eq_some_iff.1 hk).1).trans hk⟩, hHeld.2.2.2.trans (hb.mono hHeld.2.2.2.size)⟩
  clear hK K hHeld hb
  have hHeld := hHeld2
  clear hHeld2
  try simp only [Act.put, List.setIfInBounds_toArray, List.set_cons_zero, List.set_cons_succ]
  refine wpAnyH_ready (rs := [7]) (by kernel_rfl) (by simp) ?_
  refine AllReadyH.cons (o := ⟨some 56, _, _, _, _, _⟩) rfl (fun K hK => ?_) AllReadyH.nil
  go_simp
  (with_reducible refine (numberFrom_any y hy _ (hg.out.up hHeld.2.2.2)).mono ?_)
  rintro e w2 ⟨rfl, hb⟩
  go_wp2_with fail
  refine hK.out _ _ ?_ (fun hHeld2 => ?_)
  · exact ⟨cell_later hb hHeld.1, cell_later hb hHeld.2.1, by obtain ⟨k, key, v, hk⟩ := hHeld.2.2.1; exact ⟨k, key, v, (hb.block _ (Array.getElem?_eq_some_iff.1 hk).1).trans hk⟩, hHeld.2.2.2.trans (hb.mono hHeld.2.2.2.size)⟩
  clear hK K hHeld hb
  have hHeld := hHeld2
  clear hHeld2
  try simp only [Act.put, List.setIfInBounds_toArray, List.set_cons_zero, List.set_cons_succ]
  refine wpAnyH_take (i := 8) (oi := ⟨some 57, _, _, _, _, _⟩) (v := ?_) rfl (by kernel_rfl) (by kernel_rfl) (by kernel_rfl) (fun _ _ _ h => h) (Or.inl ⟨by rfl, ?_⟩) (by assumption) ?_
  rotate_left 1
  · intro w hSw; (try dsimp only at hSw); go_simp; try (with_reducible rfl)
  try simp only [Act.put, List.setIfInBounds_toArray, List.set_cons_zero, List.set_cons_succ]
  obtain ⟨k0, k1, k2, hblk⟩ := hHeld.2.2.1
  obtain ⟨a1, a2, a3, f1, f2, f3⟩ := blk3 hblk
  refine wpAnyH_ready (rs := [9]) (by kernel_rfl) (by simp) ?_
  refine AllReadyH.cons (o := ⟨none, _, _, _, _, _⟩) rfl (fun K hK => ?_) AllReadyH.nil
  go_simp
  refine hK.out _ _ ?_ (fun hHeld2 => ?_)
  · refine ⟨?_, ?_, ⟨2, numI x, numI y, ?_⟩, ?_⟩
    · go_simp
    · go_simp
    · simp [World.setCell, Array.getElem?_modify, hblk]
    · exact ((hHeld.2.2.2.setCell (Nat.le_refl _) _).setCell (Nat.le_refl _) _).setCell (Nat.le_refl _) _
  clear hK K hHeld
  have hHeld := hHeld2
  clear hHeld2
  try simp only [Act.put, List.setIfInBounds_toArray, List.set_cons_zero, List.set_cons_succ]
  refine wpAnyH_take (i := 10) (oi := ⟨some 3, _, _, _, _, _⟩) (v := ?_) rfl (by kernel_rfl) (by kernel_rfl) (by kernel_rfl) (fun _ _ _ h => h) (Or.inl ⟨by rfl, ?_⟩) (by assumption) ?_
  rotate_left 1
  · intro w hSw; (try dsimp only at hSw); go_simp; try (with_reducible rfl)
  try simp only [Act.put, List.setIfInBounds_toArray, List.set_cons_zero, List.set_cons_succ]
  refine wpAnyH_done (by kernel_rfl) ?_ _
  try simp only [Act.put, List.setIfInBounds_toArray, List.set_cons_zero, List.set_cons_succ]
  go_wp2_with fail
  exact bodyPost_ret (v := .tuple #[.agg #[.int .i64 2, .int .i64 (numI x), .int .i64 (numI y)], .bool true]) (by simp [results, Tryd.results20, go_sem, a1, a2, a3]) rfl ⟨rfl, hHeld.2.2.2⟩

theorem cow_e1 (b : Nat) (a : ByteArray) (w : World) (hw : Ws w b [a]) (h : ¬ a = ⟨#[110, 111, 110, 101]⟩) :
    Calls Tryd.prog 20 #[.slice (some ⟨b, 0, none⟩) 1 1] w fun e w' => e = .returned (.tuple #[.agg #[.int .i64 0, .int .i64 0, .int .i64 0], .bool false]) ∧ Below w.heap.size w w' := by
  have h0 := hw.at 0 _ rfl
  have hlt := hw.1
  have q1 := lit_ne h
  clear hw
  go_enter Tryd.func20, Tryd.ntmps20
  go_wp2_with fail
  exact bodyPost_ret (v := .tuple #[.agg #[.int .i64 0, .int .i64 0, .int .i64 0], .bool false]) (by simp [results, Tryd.results20, go_sem]) rfl ⟨rfl, by repeat (first | with_reducible exact Below.refl _ _ | with_reducible refine Below.setCell ?_ (by first | (simp; done) | (simp; omega)) _ | with_reducible refine Below.alloc ?_ (by first | (simp; done) | (simp; omega)) _)⟩

theorem cow_e2 (b : Nat) (a x : ByteArray) (w : World) (hw : Ws w b [a, x]) (h : ¬ a = ⟨#[114, 101, 97, 100]⟩) :
    Calls Tryd.prog 20 #[.slice (some ⟨b, 0, none⟩) 2 2] w fun e w' => e = .returned (.tuple #[.agg #[.int .i64 0, .int .i64 0, .int .i64 0], .bool false]) ∧ Below w.heap.size w w' := by
  have h0 := hw.at 0 _ rfl
  have hlt := hw.1
  have q1 := lit_ne h
  clear hw
  go_enter Tryd.func20, Tryd.ntmps20
  go_wp2_with fail
  exact bodyPost_ret (v := .tuple #[.agg #[.int .i64 0, .int .i64 0, .int .i64 0], .bool false]) (by simp [results, Tryd.results20, go_sem]) rfl ⟨rfl, by repeat (first | with_reducible exact Below.refl _ _ | with_reducible refine Below.setCell ?_ (by first | (simp; done) | (simp; omega)) _ | with_reducible refine Below.alloc ?_ (by first | (simp; done) | (simp; omega)) _)⟩

theorem cow_e3 (b : Nat) (a x y : ByteArray) (w : World) (hw : Ws w b [a, x, y]) (h : ¬ a = ⟨#[112, 117, 116]⟩) (h' : ¬ a = ⟨#[97, 100, 100]⟩) :
    Calls Tryd.prog 20 #[.slice (some ⟨b, 0, none⟩) 3 3] w fun e w' => e = .returned (.tuple #[.agg #[.int .i64 0, .int .i64 0, .int .i64 0], .bool false]) ∧ Below w.heap.size w w' := by
  have h0 := hw.at 0 _ rfl
  have hlt := hw.1
  have q1 := lit_ne h
  have q2 := lit_ne h'
  clear hw
  go_enter Tryd.func20, Tryd.ntmps20
  go_wp2_with fail
  exact bodyPost_ret (v := .tuple #[.agg #[.int .i64 0, .int .i64 0, .int .i64 0], .bool false]) (by simp [results, Tryd.results20, go_sem]) rfl ⟨rfl, by repeat (first | with_reducible exact Below.refl _ _ | with_reducible refine Below.setCell ?_ (by first | (simp; done) | (simp; omega)) _ | with_reducible refine Below.alloc ?_ (by first | (simp; done) | (simp; omega)) _)⟩

theorem cow_e4 (b : Nat) (n : Nat) (w : World) (hw : 4 ≤ n ∧ n ≤ 9223372036854775807) :
    Calls Tryd.prog 20 #[.slice (some ⟨b, 0, none⟩) n n] w fun e w' => e = .returned (.tuple #[.agg #[.int .i64 0, .int .i64 0, .int .i64 0], .bool false]) ∧ Below w.heap.size w w' := by
  have q1 : ((n : Int) == 1) = false := by simp; omega
  have q2 : ((n : Int) == 2) = false := by simp; omega
  have q3 : ((n : Int) == 3) = false := by simp; omega
  have q4 := hw.2
  clear hw
  go_enter Tryd.func20, Tryd.ntmps20
  go_wp2_with fail
  exact bodyPost_ret (v := .tuple #[.agg #[.int .i64 0, .int .i64 0, .int .i64 0], .bool false]) (by simp [results, Tryd.results20, go_sem]) rfl ⟨rfl, by repeat (first | with_reducible exact Below.refl _ _ | with_reducible refine Below.setCell ?_ (by first | (simp; done) | (simp; omega)) _ | with_reducible refine Below.alloc ?_ (by first | (simp; done) | (simp; omega)) _)⟩

end Go.Proofs.YthdofjfjefcfpaaDoor
