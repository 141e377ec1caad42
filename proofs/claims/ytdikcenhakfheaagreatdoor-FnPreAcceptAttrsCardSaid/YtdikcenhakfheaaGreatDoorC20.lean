/- Texts laid together. -/
import Derived.Test.YtdikcenhakfheaaGreatDoorC05
import Derived.Deep.RegionHeld3
import Derived.Deep.DeepCutAuto
/- The proposal that an entry is. -/
namespace Go.Proofs.YtdikcenhakfheaaGreatDoor
open Go.RowKit
set_option linter.unusedVariables false

theorem pr_resO (tm : Array Value) (w : World) (b : Nat) (x0 x1 x2 x3 x4 x5 x6 x7 x8 x9 x10 x11 : Value) (t : TypeId) (q : Bool) (h2 : tm[2]? = some (.pointer (some ⟨b, 0, none⟩))) (h3 : tm[3]? = some (.bool q)) (h : w.heap[b]? = some (.cells #[x0, x1, x2, x3, x4, x5, x6, x7, x8, x9, x10, x11] t (0, 0))) :
    (results Tryz.f37 tm).run Tryz.prog w = .ok (.tuple #[.agg #[x0, x1, x2, x3, x4, x5, x6, x7, x8, x9, x10, x11], .bool q]) w := by
  obtain ⟨⟨t0, t1, t2, t3, t4, t5, t6, t7, t8, t9, t10, t11⟩, _, _⟩ := all12 h
  simp [results, Tryz.results37, go_sem, h2, h3, t0, t1, t2, t3, t4, t5, t6, t7, t8, t9, t10, t11]
theorem ppo_set {w wc : World} {X : En} {ua : Option Addr} {un uc sb : Nat} {g : Nat → Nat} (hs : w.heap.size + 1 < sb) {i : Nat} {u : Value} (h : wc.cell? ⟨w.heap.size, 0, none⟩ = some (.int .i64 X.id.1) ∧ wc.cell? ⟨w.heap.size, 1, none⟩ = some (.int .i64 X.id.2) ∧ wc.cell? ⟨w.heap.size, 2, none⟩ = some (.int .i64 X.bal) ∧ wc.cell? ⟨w.heap.size, 3, none⟩ = some (.int .i64 X.st) ∧ wc.cell? ⟨w.heap.size, 4, none⟩ = some (.int .i64 X.k) ∧ wc.cell? ⟨w.heap.size, 5, none⟩ = some (.int .i64 X.key) ∧ wc.cell? ⟨w.heap.size, 6, none⟩ = some (.int .i64 X.v) ∧ wc.cell? ⟨w.heap.size, 7, none⟩ = some (.int .i64 X.seq) ∧ wc.cell? ⟨w.heap.size, 8, none⟩ = some (.slice ua un uc) ∧ wc.cell? ⟨sb, 0, none⟩ = some (.int .u64 (g 0)) ∧ wc.cell? ⟨sb, 1, none⟩ = some (.int .u64 (g 1)) ∧ wc.cell? ⟨sb, 2, none⟩ = some (.int .u64 (g 2)) ∧ wc.cell? ⟨sb, 3, none⟩ = some (.int .u64 (g 3)) ∧ wc.cell? ⟨sb, 4, none⟩ = some (.int .u64 (g 4)) ∧ Below w.heap.size w wc) : (wc.setCell ⟨w.heap.size + 1, i, none⟩ u).cell? ⟨w.heap.size, 0, none⟩ = some (.int .i64 X.id.1) ∧ (wc.setCell ⟨w.heap.size + 1, i, none⟩ u).cell? ⟨w.heap.size, 1, none⟩ = some (.int .i64 X.id.2) ∧ (wc.setCell ⟨w.heap.size + 1, i, none⟩ u).cell? ⟨w.heap.size, 2, none⟩ = some (.int .i64 X.bal) ∧ (wc.setCell ⟨w.heap.size + 1, i, none⟩ u).cell? ⟨w.heap.size, 3, none⟩ = some (.int .i64 X.st) ∧ (wc.setCell ⟨w.heap.size + 1, i, none⟩ u).cell? ⟨w.heap.size, 4, none⟩ = some (.int .i64 X.k) ∧ (wc.setCell ⟨w.heap.size + 1, i, none⟩ u).cell? ⟨w.heap.size, 5, none⟩ = some (.int .i64 X.key) ∧ (wc.setCell ⟨w.heap.size + 1, i, none⟩ u).cell? ⟨w.heap.size, 6, none⟩ = some (.int .i64 X.v) ∧ (wc.setCell ⟨w.heap.size + 1, i, none⟩ u).cell? ⟨w.heap.size, 7, none⟩ = some (.int .i64 X.seq) ∧ (wc.setCell ⟨w.heap.size + 1, i, none⟩ u).cell? ⟨w.heap.size, 8, none⟩ = some (.slice ua un uc) ∧ (wc.setCell ⟨w.heap.size + 1, i, none⟩ u).cell? ⟨sb, 0, none⟩ = some (.int .u64 (g 0)) ∧ (wc.setCell ⟨w.heap.size + 1, i, none⟩ u).cell? ⟨sb, 1, none⟩ = some (.int .u64 (g 1)) ∧ (wc.setCell ⟨w.heap.size + 1, i, none⟩ u).cell? ⟨sb, 2, none⟩ = some (.int .u64 (g 2)) ∧ (wc.setCell ⟨w.heap.size + 1, i, none⟩ u).cell? ⟨sb, 3, none⟩ = some (.int .u64 (g 3)) ∧ (wc.setCell ⟨w.heap.size + 1, i, none⟩ u).cell? ⟨sb, 4, none⟩ = some (.int .u64 (g 4)) ∧ Below w.heap.size w (wc.setCell ⟨w.heap.size + 1, i, none⟩ u) :=
  ⟨cell_set u (by omega) h.1, cell_set u (by omega) h.2.1, cell_set u (by omega) h.2.2.1, cell_set u (by omega) h.2.2.2.1, cell_set u (by omega) h.2.2.2.2.1, cell_set u (by omega) h.2.2.2.2.2.1, cell_set u (by omega) h.2.2.2.2.2.2.1, cell_set u (by omega) h.2.2.2.2.2.2.2.1, cell_set u (by omega) h.2.2.2.2.2.2.2.2.1, cell_set u (by omega) h.2.2.2.2.2.2.2.2.2.1, cell_set u (by omega) h.2.2.2.2.2.2.2.2.2.2.1, cell_set u (by omega) h.2.2.2.2.2.2.2.2.2.2.2.1, cell_set u (by omega) h.2.2.2.2.2.2.2.2.2.2.2.2.1, cell_set u (by omega) h.2.2.2.2.2.2.2.2.2.2.2.2.2.1, h.2.2.2.2.2.2.2.2.2.2.2.2.2.2.setCell (p := ⟨w.heap.size + 1, i, none⟩) (by show w.heap.size ≤ w.heap.size + 1; omega) u⟩

set_option maxRecDepth 100000 in
set_option maxHeartbeats 8000000 in
theorem ipropOf_any (X : En) (u : Value) (w : World) (h : Ids w u X.deps) :
    Calls Tryz.prog 37 #[env X u] w fun e w' => e = .returned (.tuple #[prV X.id X.bal X.k X.key X.v X.seq (setF X.deps), .bool (enB X && (X.st == 1))]) ∧ Below w.heap.size w w' := by
  obtain ⟨ua, un, uc, rfl⟩ : ∃ ua un uc, u = .slice ua un uc := by obtain ⟨a, c, e, _⟩ := h; exact ⟨a, _, c, e⟩
  have nv := fun W (hb : Below w.heap.size w W) => ievalid_any X (.slice ua un uc) W (h.up hb (Nat.le_refl _))
  have is := fun W (hb : Below w.heap.size w W) => iset_any (.slice ua un uc) X.deps W (h.up hb (Nat.le_refl _))
  unfold SetPost setV at is
  unfold env at nv ⊢
  unfold prV
  obtain ⟨q, hq⟩ : ∃ q, Hid (enB X = q) := ⟨_, Lib.hid rfl⟩
  obtain ⟨g, hg⟩ : ∃ q, Hid (setF X.deps = q) := ⟨_, Lib.hid rfl⟩
  rw [hq.out] at nv ⊢
  rw [hg.out] at is ⊢
  have A0 := Lib.hid ((Below.heap_alloc _ (.cells #[.int .i64 0, .int .i64 0, .int .i64 0, .int .i64 0, .int .i64 0, .int .i64 0, .int .i64 0, .int .u64 0, .int .u64 0, .int .u64 0, .int .u64 0, .int .u64 0] 78) _ (by simp)).trans (heap_alloc_new w (.cells #[.int .i64 X.id.1, .int .i64 X.id.2, .int .i64 X.bal, .int .i64 X.st, .int .i64 X.k, .int .i64 X.key, .int .i64 X.v, .int .i64 X.seq, .slice ua un uc] 30)))
  have R0 := Lib.hid (heap_alloc_at (w.alloc (.cells #[.int .i64 X.id.1, .int .i64 X.id.2, .int .i64 X.bal, .int .i64 X.st, .int .i64 X.k, .int .i64 X.key, .int .i64 X.v, .int .i64 X.seq, .slice ua un uc] 30)) (.cells #[.int .i64 0, .int .i64 0, .int .i64 0, .int .i64 0, .int .i64 0, .int .i64 0, .int .i64 0, .int .u64 0, .int .u64 0, .int .u64 0, .int .u64 0, .int .u64 0] 78) (w.heap.size + 1) (by simp))
  have D0 := Lib.hid (((Below.refl w.heap.size w).alloc (Nat.le_refl _) (.cells #[.int .i64 X.id.1, .int .i64 X.id.2, .int .i64 X.bal, .int .i64 X.st, .int .i64 X.k, .int .i64 X.key, .int .i64 X.v, .int .i64 X.seq, .slice ua un uc] 30)).alloc (by simp) (.cells #[.int .i64 0, .int .i64 0, .int .i64 0, .int .i64 0, .int .i64 0, .int .i64 0, .int .i64 0, .int .u64 0, .int .u64 0, .int .u64 0, .int .u64 0, .int .u64 0] 78))
  clear h
  go_enter Tryz.func37, Tryz.ntmps37
  go_upto_region 1 with fail
  generalize ((w.alloc (.cells #[.int .i64 X.id.1, .int .i64 X.id.2, .int .i64 X.bal, .int .i64 X.st, .int .i64 X.k, .int .i64 X.key, .int .i64 X.v, .int .i64 X.seq, .slice ua un uc] 30)).alloc (.cells #[.int .i64 0, .int .i64 0, .int .i64 0, .int .i64 0, .int .i64 0, .int .i64 0, .int .i64 0, .int .u64 0, .int .u64 0, .int .u64 0, .int .u64 0, .int .u64 0] 78)) = w1 at A0 R0 D0 ⊢
  obtain ⟨⟨y0, y1, y2, y3, y4, y5, y6, y7, y8⟩, _, yl⟩ := nine_all A0.out
  go_wp2_with fail
  refine (is _ D0.out).mono ?_
  rintro e w2 ⟨rfl, B⟩
  have A1 := bblk B (lt_of_heap A0.out) A0.out
  have R1 := bblk B (lt_of_heap R0.out) R0.out
  have D1 := bstep D0.out B
  have BA := (Below.refl w2.heap.size w2).alloc (Nat.le_refl _) (.cells #[.int .u64 (g 0), .int .u64 (g 1), .int .u64 (g 2), .int .u64 (g 3), .int .u64 (g 4)] 74)
  have S5 : Set5 (w2.alloc (.cells #[.int .u64 (g 0), .int .u64 (g 1), .int .u64 (g 2), .int .u64 (g 3), .int .u64 (g 4)] 74)) w2.heap.size g := heap_alloc_new w2 _
  replace A1 := Lib.hid (bblk BA (lt_of_heap A1) A1)
  have hsb : w.heap.size + 1 < w2.heap.size := lt_of_heap R1
  replace R1 := bblk BA (lt_of_heap R1) R1
  replace D1 := Lib.hid (bstep D1 BA)
  have S5 := Lib.hid S5
  clear R0 A0 D0 is B BA y0 y1 y2 y3 y4 y5 y6 y7 y8 yl
  have R0 := Lib.hid R1
  clear R1
  go_upto_region 2 with fail
  obtain ⟨sb, hsbe⟩ : ∃ c, Hid (w2.heap.size = c) := ⟨_, Lib.hid rfl⟩
  rw [hsbe.out] at S5 hsb ⊢
  generalize w2.alloc (.cells #[.int .u64 (g 0), .int .u64 (g 1), .int .u64 (g 2), .int .u64 (g 3), .int .u64 (g 4)] 74) = W2 at A1 R0 D1 S5 ⊢
  clear hsbe
  have hS0 : W2.cell? ⟨w.heap.size, 0, none⟩ = some (.int .i64 X.id.1) ∧ W2.cell? ⟨w.heap.size, 1, none⟩ = some (.int .i64 X.id.2) ∧ W2.cell? ⟨w.heap.size, 2, none⟩ = some (.int .i64 X.bal) ∧ W2.cell? ⟨w.heap.size, 3, none⟩ = some (.int .i64 X.st) ∧ W2.cell? ⟨w.heap.size, 4, none⟩ = some (.int .i64 X.k) ∧ W2.cell? ⟨w.heap.size, 5, none⟩ = some (.int .i64 X.key) ∧ W2.cell? ⟨w.heap.size, 6, none⟩ = some (.int .i64 X.v) ∧ W2.cell? ⟨w.heap.size, 7, none⟩ = some (.int .i64 X.seq) ∧ W2.cell? ⟨w.heap.size, 8, none⟩ = some (.slice ua un uc) ∧ W2.cell? ⟨sb, 0, none⟩ = some (.int .u64 (g 0)) ∧ W2.cell? ⟨sb, 1, none⟩ = some (.int .u64 (g 1)) ∧ W2.cell? ⟨sb, 2, none⟩ = some (.int .u64 (g 2)) ∧ W2.cell? ⟨sb, 3, none⟩ = some (.int .u64 (g 3)) ∧ W2.cell? ⟨sb, 4, none⟩ = some (.int .u64 (g 4)) ∧ Below w.heap.size w W2 := by
    obtain ⟨⟨y0, y1, y2, y3, y4, y5, y6, y7, y8⟩, _, yl⟩ := nine_all A1.out
    obtain ⟨s0, s1, s2, s3, s4⟩ := S5.out.five
    exact ⟨y0, y1, y2, y3, y4, y5, y6, y7, y8, s0, s1, s2, s3, s4, D1.out⟩
  clear A1 S5 D1
  cases q
  · skip
    go_upto_region 2 with fail
    refine wp_region_held_drew (S := fun w' => w'.cell? ⟨w.heap.size, 0, none⟩ = some (.int .i64 X.id.1) ∧ w'.cell? ⟨w.heap.size, 1, none⟩ = some (.int .i64 X.id.2) ∧ w'.cell? ⟨w.heap.size, 2, none⟩ = some (.int .i64 X.bal) ∧ w'.cell? ⟨w.heap.size, 3, none⟩ = some (.int .i64 X.st) ∧ w'.cell? ⟨w.heap.size, 4, none⟩ = some (.int .i64 X.k) ∧ w'.cell? ⟨w.heap.size, 5, none⟩ = some (.int .i64 X.key) ∧ w'.cell? ⟨w.heap.size, 6, none⟩ = some (.int .i64 X.v) ∧ w'.cell? ⟨w.heap.size, 7, none⟩ = some (.int .i64 X.seq) ∧ w'.cell? ⟨w.heap.size, 8, none⟩ = some (.slice ua un uc) ∧ w'.cell? ⟨sb, 0, none⟩ = some (.int .u64 (g 0)) ∧ w'.cell? ⟨sb, 1, none⟩ = some (.int .u64 (g 1)) ∧ w'.cell? ⟨sb, 2, none⟩ = some (.int .u64 (g 2)) ∧ w'.cell? ⟨sb, 3, none⟩ = some (.int .u64 (g 3)) ∧ w'.cell? ⟨sb, 4, none⟩ = some (.int .u64 (g 4)) ∧ Below w.heap.size w w') (by kernel_rfl) ⟨hS0.1, hS0.2.1, hS0.2.2.1, hS0.2.2.2.1, hS0.2.2.2.2.1, hS0.2.2.2.2.2.1, hS0.2.2.2.2.2.2.1, hS0.2.2.2.2.2.2.2.1, hS0.2.2.2.2.2.2.2.2.1, hS0.2.2.2.2.2.2.2.2.2.1, hS0.2.2.2.2.2.2.2.2.2.2.1, hS0.2.2.2.2.2.2.2.2.2.2.2.1, hS0.2.2.2.2.2.2.2.2.2.2.2.2.1, hS0.2.2.2.2.2.2.2.2.2.2.2.2.2.1, (hS0.2.2.2.2.2.2.2.2.2.2.2.2.2.2).drew⟩ (fun hHeld => ?_)
    refine wpAnyH_take (i := 0) (oi := ⟨some 12, _, _, _, _, _⟩) (v := ?_) rfl (by kernel_rfl) (by kernel_rfl) (by kernel_rfl) (fun _ _ _ h => h) (Or.inl ⟨by rfl, ?_⟩) (by assumption) ?_
    rotate_left 1
    · intro w hSw; (try dsimp only at hSw); go_simp; try (with_reducible rfl)
    try simp only [Act.put, List.setIfInBounds_toArray, List.set_cons_zero, List.set_cons_succ]
    refine wpAnyH_take (i := 1) (oi := ⟨some 13, _, _, _, _, _⟩) (v := ?_) rfl (by kernel_rfl) (by kernel_rfl) (by kernel_rfl) (fun _ _ _ h => h) (Or.inl ⟨by rfl, ?_⟩) (by assumption) ?_
    rotate_left 1
    · intro w hSw; (try dsimp only at hSw); go_simp; try (with_reducible rfl)
    try simp only [Act.put, List.setIfInBounds_toArray, List.set_cons_zero, List.set_cons_succ]
    refine wpAnyH_take (i := 2) (oi := ⟨some 14, _, _, _, _, _⟩) (v := ?_) rfl (by kernel_rfl) (by kernel_rfl) (by kernel_rfl) (fun _ _ _ h => h) (Or.inl ⟨by rfl, ?_⟩) (by assumption) ?_
    rotate_left 1
    · intro w hSw; (try dsimp only at hSw); go_simp; try (with_reducible rfl)
    try simp only [Act.put, List.setIfInBounds_toArray, List.set_cons_zero, List.set_cons_succ]
    refine wpAnyH_take (i := 3) (oi := ⟨some 15, _, _, _, _, _⟩) (v := ?_) rfl (by kernel_rfl) (by kernel_rfl) (by kernel_rfl) (fun _ _ _ h => h) (Or.inl ⟨by rfl, ?_⟩) (by assumption) ?_
    rotate_left 1
    · intro w hSw; (try dsimp only at hSw); go_simp; try (with_reducible rfl)
    try simp only [Act.put, List.setIfInBounds_toArray, List.set_cons_zero, List.set_cons_succ]
    refine wpAnyH_take (i := 4) (oi := ⟨some 16, _, _, _, _, _⟩) (v := ?_) rfl (by kernel_rfl) (by kernel_rfl) (by kernel_rfl) (fun _ _ _ h => h) (Or.inl ⟨by rfl, ?_⟩) (by assumption) ?_
    rotate_left 1
    · intro w hSw; (try dsimp only at hSw); go_simp; try (with_reducible rfl)
    try simp only [Act.put, List.setIfInBounds_toArray, List.set_cons_zero, List.set_cons_succ]
    refine wpAnyH_take (i := 5) (oi := ⟨some 17, _, _, _, _, _⟩) (v := ?_) rfl (by kernel_rfl) (by kernel_rfl) (by kernel_rfl) (fun _ _ _ h => h) (Or.inl ⟨by rfl, ?_⟩) (by assumption) ?_
    rotate_left 1
    · intro w hSw; (try dsimp only at hSw); go_simp; try (with_reducible rfl)
    try simp only [Act.put, List.setIfInBounds_toArray, List.set_cons_zero, List.set_cons_succ]
    refine wpAnyH_take (i := 6) (oi := ⟨some 18, _, _, _, _, _⟩) (v := ?_) rfl (by kernel_rfl) (by kernel_rfl) (by kernel_rfl) (fun _ _ _ h => h) (Or.inl ⟨by rfl, ?_⟩) (by assumption) ?_
    rotate_left 1
    · intro w hSw; (try dsimp only at hSw); go_simp; try (with_reducible rfl)
    try simp only [Act.put, List.setIfInBounds_toArray, List.set_cons_zero, List.set_cons_succ]
    refine wpAnyH_take (i := 7) (oi := ⟨some 19, _, _, _, _, _⟩) (v := ?_) rfl (by kernel_rfl) (by kernel_rfl) (by kernel_rfl) (fun _ _ _ h => h) (Or.inl ⟨by rfl, ?_⟩) (by assumption) ?_
    rotate_left 1
    · intro w hSw; (try dsimp only at hSw); go_simp; try (with_reducible rfl)
    try simp only [Act.put, List.setIfInBounds_toArray, List.set_cons_zero, List.set_cons_succ]
    refine wpAnyH_take (i := 8) (oi := ⟨some 20, _, _, _, _, _⟩) (v := ?_) rfl (by kernel_rfl) (by kernel_rfl) (by kernel_rfl) (fun _ _ _ h => h) (Or.inl ⟨by rfl, ?_⟩) (by assumption) ?_
    rotate_left 1
    · intro w hSw; (try dsimp only at hSw); go_simp; try (with_reducible rfl)
    try simp only [Act.put, List.setIfInBounds_toArray, List.set_cons_zero, List.set_cons_succ]
    refine wpAnyH_take (i := 9) (oi := ⟨some 21, _, _, _, _, _⟩) (v := ?_) rfl (by kernel_rfl) (by kernel_rfl) (by kernel_rfl) (fun _ _ _ h => h) (Or.inl ⟨by rfl, ?_⟩) (by assumption) ?_
    rotate_left 1
    · intro w hSw; (try dsimp only at hSw); go_simp; try (with_reducible rfl)
    try simp only [Act.put, List.setIfInBounds_toArray, List.set_cons_zero, List.set_cons_succ]
    refine wpAnyH_take (i := 10) (oi := ⟨some 22, _, _, _, _, _⟩) (v := ?_) rfl (by kernel_rfl) (by kernel_rfl) (by kernel_rfl) (fun _ _ _ h => h) (Or.inl ⟨by rfl, ?_⟩) (by assumption) ?_
    rotate_left 1
    · intro w hSw; (try dsimp only at hSw); go_simp; try (with_reducible rfl)
    try simp only [Act.put, List.setIfInBounds_toArray, List.set_cons_zero, List.set_cons_succ]
    refine wpAnyH_take (i := 11) (oi := ⟨some 23, _, _, _, _, _⟩) (v := ?_) rfl (by kernel_rfl) (by kernel_rfl) (by kernel_rfl) (fun _ _ _ h => h) (Or.inl ⟨by rfl, ?_⟩) (by assumption) ?_
    rotate_left 1
    · intro w hSw; (try dsimp only at hSw); go_simp; try (with_reducible rfl)
    try simp only [Act.put, List.setIfInBounds_toArray, List.set_cons_zero, List.set_cons_succ]
    refine wpAnyH_ready (rs := [12]) (by kernel_rfl) (by simp) ?_
    refine AllReadyH.cons (o := ⟨some 24, _, _, _, _, _⟩) rfl (fun K hK => ?_) AllReadyH.nil
    go_simp
    with_reducible refine (nv _ hHeld.2.2.2.2.2.2.2.2.2.2.2.2.2.2).mono ?_
    rintro e wq ⟨rfl, hb⟩
    go_wp2_with fail
    replace R0 := Lib.hid (by first | exact bblk hb (lt_of_heap R0.out) R0.out | exact bblk_d hb (lt_of_heap R0.out) R0.out)
    refine hK.out _ _ ?_ (fun hHeld2 => ?_)
    · exact ⟨cell_later hb hHeld.1, cell_later hb hHeld.2.1, cell_later hb hHeld.2.2.1, cell_later hb hHeld.2.2.2.1, cell_later hb hHeld.2.2.2.2.1, cell_later hb hHeld.2.2.2.2.2.1, cell_later hb hHeld.2.2.2.2.2.2.1, cell_later hb hHeld.2.2.2.2.2.2.2.1, cell_later hb hHeld.2.2.2.2.2.2.2.2.1, cell_later hb hHeld.2.2.2.2.2.2.2.2.2.1, cell_later hb hHeld.2.2.2.2.2.2.2.2.2.2.1, cell_later hb hHeld.2.2.2.2.2.2.2.2.2.2.2.1, cell_later hb hHeld.2.2.2.2.2.2.2.2.2.2.2.2.1, cell_later hb hHeld.2.2.2.2.2.2.2.2.2.2.2.2.2.1, hHeld.2.2.2.2.2.2.2.2.2.2.2.2.2.2.trans (hb.mono hHeld.2.2.2.2.2.2.2.2.2.2.2.2.2.2.size)⟩
    clear hK K hHeld hb
    have hHeld := hHeld2
    clear hHeld2
    try simp only [Act.put, List.setIfInBounds_toArray, List.set_cons_zero, List.set_cons_succ]
    refine wpAnyH_take (i := 13) (oi := ⟨some 25, _, _, _, _, _⟩) (v := ?_) rfl (by kernel_rfl) (by kernel_rfl) (by kernel_rfl) (fun _ _ _ h => h) (Or.inl ⟨by rfl, ?_⟩) (by assumption) ?_
    rotate_left 1
    · intro w hSw; (try dsimp only at hSw); go_simp; try (with_reducible rfl)
    try simp only [Act.put, List.setIfInBounds_toArray, List.set_cons_zero, List.set_cons_succ]
    refine wpAnyH_take (i := 14) (oi := ⟨some 26, _, _, _, _, _⟩) (v := undef) rfl (by kernel_rfl) (by kernel_rfl) (by kernel_rfl) (fun _ _ _ h => h) (Or.inr ⟨by rfl, rfl⟩) (by assumption) ?_
    try simp only [Act.put, List.setIfInBounds_toArray, List.set_cons_zero, List.set_cons_succ]
    refine wpAnyH_take (i := 15) (oi := ⟨some 27, _, _, _, _, _⟩) (v := undef) rfl (by kernel_rfl) (by kernel_rfl) (by kernel_rfl) (fun _ _ _ h => h) (Or.inr ⟨by rfl, rfl⟩) (by assumption) ?_
    try simp only [Act.put, List.setIfInBounds_toArray, List.set_cons_zero, List.set_cons_succ]
    refine wpAnyH_take (i := 16) (oi := ⟨some 28, _, _, _, _, _⟩) (v := undef) rfl (by kernel_rfl) (by kernel_rfl) (by kernel_rfl) (fun _ _ _ h => h) (Or.inr ⟨by rfl, rfl⟩) (by assumption) ?_
    try simp only [Act.put, List.setIfInBounds_toArray, List.set_cons_zero, List.set_cons_succ]
    refine wpAnyH_take (i := 17) (oi := ⟨some 29, _, _, _, _, _⟩) (v := ?_) rfl (by kernel_rfl) (by kernel_rfl) (by kernel_rfl) (fun _ _ _ h => h) (Or.inl ⟨by rfl, ?_⟩) (by assumption) ?_
    rotate_left 1
    · intro w hSw; (try dsimp only at hSw); go_simp; try (with_reducible rfl)
    try simp only [Act.put, List.setIfInBounds_toArray, List.set_cons_zero, List.set_cons_succ]
    obtain ⟨⟨z0, z1, z2, z3, z4, z5, z6, z7, z8, z9, z10, z11⟩, fz, hzl⟩ := all12 R0.out
    have f0 := fz 0; have f1 := fz 1; have f2 := fz 2; have f3 := fz 3; have f4 := fz 4; have f5 := fz 5
    have f6 := fz 6; have f7 := fz 7; have f8 := fz 8; have f9 := fz 9; have f10 := fz 10; have f11 := fz 11
    refine wpAnyH_ready (rs := [18]) (by kernel_rfl) (by simp) ?_
    refine AllReadyH.cons (o := ⟨none, _, _, _, _, _⟩) rfl (fun K hK => ?_) AllReadyH.nil
    go_simp
    refine hK.out _ _ ?_ (fun hHeld2 => ?_)
    · refine ppo_set hsb ?_; refine ppo_set hsb ?_; refine ppo_set hsb ?_; refine ppo_set hsb ?_; refine ppo_set hsb ?_; refine ppo_set hsb ?_; refine ppo_set hsb ?_; refine ppo_set hsb ?_; refine ppo_set hsb ?_; refine ppo_set hsb ?_; refine ppo_set hsb ?_; refine ppo_set hsb ?_; exact hHeld
    clear hK K hHeld
    have hHeld := hHeld2
    clear hHeld2
    try simp only [Act.put, List.setIfInBounds_toArray, List.set_cons_zero, List.set_cons_succ]
    refine wpAnyH_take (i := 19) (oi := ⟨some 3, _, _, _, _, _⟩) (v := ?_) rfl (by kernel_rfl) (by kernel_rfl) (by kernel_rfl) (fun _ _ _ h => h) (Or.inl ⟨by rfl, ?_⟩) (by assumption) ?_
    rotate_left 1
    · intro w hSw; (try dsimp only at hSw); go_simp; try (with_reducible rfl)
    try simp only [Act.put, List.setIfInBounds_toArray, List.set_cons_zero, List.set_cons_succ]
    refine wpAnyH_done (by kernel_rfl) ?_ _
    try simp only [Act.put, List.setIfInBounds_toArray, List.set_cons_zero, List.set_cons_succ]
    have D9 := Lib.hid hHeld.2.2.2.2.2.2.2.2.2.2.2.2.2.2
    clear hHeld
    go_wp2_with fail
    refine bodyPost_ret (pr_resO _ _ _ _ _ _ _ _ _ _ _ _ _ _ _ _ _ rfl rfl (put12_at _ _ _ _ _ _ _ _ _ _ _ _ R0.out)) rfl ⟨rfl, D9.out⟩
  · skip
    go_upto_region 2 with fail
    refine wp_region_held_drew (S := fun w' => w'.cell? ⟨w.heap.size, 0, none⟩ = some (.int .i64 X.id.1) ∧ w'.cell? ⟨w.heap.size, 1, none⟩ = some (.int .i64 X.id.2) ∧ w'.cell? ⟨w.heap.size, 2, none⟩ = some (.int .i64 X.bal) ∧ w'.cell? ⟨w.heap.size, 3, none⟩ = some (.int .i64 X.st) ∧ w'.cell? ⟨w.heap.size, 4, none⟩ = some (.int .i64 X.k) ∧ w'.cell? ⟨w.heap.size, 5, none⟩ = some (.int .i64 X.key) ∧ w'.cell? ⟨w.heap.size, 6, none⟩ = some (.int .i64 X.v) ∧ w'.cell? ⟨w.heap.size, 7, none⟩ = some (.int .i64 X.seq) ∧ w'.cell? ⟨w.heap.size, 8, none⟩ = some (.slice ua un uc) ∧ w'.cell? ⟨sb, 0, none⟩ = some (.int .u64 (g 0)) ∧ w'.cell? ⟨sb, 1, none⟩ = some (.int .u64 (g 1)) ∧ w'.cell? ⟨sb, 2, none⟩ = some (.int .u64 (g 2)) ∧ w'.cell? ⟨sb, 3, none⟩ = some (.int .u64 (g 3)) ∧ w'.cell? ⟨sb, 4, none⟩ = some (.int .u64 (g 4)) ∧ Below w.heap.size w w') (by kernel_rfl) ⟨hS0.1, hS0.2.1, hS0.2.2.1, hS0.2.2.2.1, hS0.2.2.2.2.1, hS0.2.2.2.2.2.1, hS0.2.2.2.2.2.2.1, hS0.2.2.2.2.2.2.2.1, hS0.2.2.2.2.2.2.2.2.1, hS0.2.2.2.2.2.2.2.2.2.1, hS0.2.2.2.2.2.2.2.2.2.2.1, hS0.2.2.2.2.2.2.2.2.2.2.2.1, hS0.2.2.2.2.2.2.2.2.2.2.2.2.1, hS0.2.2.2.2.2.2.2.2.2.2.2.2.2.1, (hS0.2.2.2.2.2.2.2.2.2.2.2.2.2.2).drew⟩ (fun hHeld => ?_)
    refine wpAnyH_take (i := 0) (oi := ⟨some 12, _, _, _, _, _⟩) (v := ?_) rfl (by kernel_rfl) (by kernel_rfl) (by kernel_rfl) (fun _ _ _ h => h) (Or.inl ⟨by rfl, ?_⟩) (by assumption) ?_
    rotate_left 1
    · intro w hSw; (try dsimp only at hSw); go_simp; try (with_reducible rfl)
    try simp only [Act.put, List.setIfInBounds_toArray, List.set_cons_zero, List.set_cons_succ]
    refine wpAnyH_take (i := 1) (oi := ⟨some 13, _, _, _, _, _⟩) (v := ?_) rfl (by kernel_rfl) (by kernel_rfl) (by kernel_rfl) (fun _ _ _ h => h) (Or.inl ⟨by rfl, ?_⟩) (by assumption) ?_
    rotate_left 1
    · intro w hSw; (try dsimp only at hSw); go_simp; try (with_reducible rfl)
    try simp only [Act.put, List.setIfInBounds_toArray, List.set_cons_zero, List.set_cons_succ]
    refine wpAnyH_take (i := 2) (oi := ⟨some 14, _, _, _, _, _⟩) (v := ?_) rfl (by kernel_rfl) (by kernel_rfl) (by kernel_rfl) (fun _ _ _ h => h) (Or.inl ⟨by rfl, ?_⟩) (by assumption) ?_
    rotate_left 1
    · intro w hSw; (try dsimp only at hSw); go_simp; try (with_reducible rfl)
    try simp only [Act.put, List.setIfInBounds_toArray, List.set_cons_zero, List.set_cons_succ]
    refine wpAnyH_take (i := 3) (oi := ⟨some 15, _, _, _, _, _⟩) (v := ?_) rfl (by kernel_rfl) (by kernel_rfl) (by kernel_rfl) (fun _ _ _ h => h) (Or.inl ⟨by rfl, ?_⟩) (by assumption) ?_
    rotate_left 1
    · intro w hSw; (try dsimp only at hSw); go_simp; try (with_reducible rfl)
    try simp only [Act.put, List.setIfInBounds_toArray, List.set_cons_zero, List.set_cons_succ]
    refine wpAnyH_take (i := 4) (oi := ⟨some 16, _, _, _, _, _⟩) (v := ?_) rfl (by kernel_rfl) (by kernel_rfl) (by kernel_rfl) (fun _ _ _ h => h) (Or.inl ⟨by rfl, ?_⟩) (by assumption) ?_
    rotate_left 1
    · intro w hSw; (try dsimp only at hSw); go_simp; try (with_reducible rfl)
    try simp only [Act.put, List.setIfInBounds_toArray, List.set_cons_zero, List.set_cons_succ]
    refine wpAnyH_take (i := 5) (oi := ⟨some 17, _, _, _, _, _⟩) (v := ?_) rfl (by kernel_rfl) (by kernel_rfl) (by kernel_rfl) (fun _ _ _ h => h) (Or.inl ⟨by rfl, ?_⟩) (by assumption) ?_
    rotate_left 1
    · intro w hSw; (try dsimp only at hSw); go_simp; try (with_reducible rfl)
    try simp only [Act.put, List.setIfInBounds_toArray, List.set_cons_zero, List.set_cons_succ]
    refine wpAnyH_take (i := 6) (oi := ⟨some 18, _, _, _, _, _⟩) (v := ?_) rfl (by kernel_rfl) (by kernel_rfl) (by kernel_rfl) (fun _ _ _ h => h) (Or.inl ⟨by rfl, ?_⟩) (by assumption) ?_
    rotate_left 1
    · intro w hSw; (try dsimp only at hSw); go_simp; try (with_reducible rfl)
    try simp only [Act.put, List.setIfInBounds_toArray, List.set_cons_zero, List.set_cons_succ]
    refine wpAnyH_take (i := 7) (oi := ⟨some 19, _, _, _, _, _⟩) (v := ?_) rfl (by kernel_rfl) (by kernel_rfl) (by kernel_rfl) (fun _ _ _ h => h) (Or.inl ⟨by rfl, ?_⟩) (by assumption) ?_
    rotate_left 1
    · intro w hSw; (try dsimp only at hSw); go_simp; try (with_reducible rfl)
    try simp only [Act.put, List.setIfInBounds_toArray, List.set_cons_zero, List.set_cons_succ]
    refine wpAnyH_take (i := 8) (oi := ⟨some 20, _, _, _, _, _⟩) (v := ?_) rfl (by kernel_rfl) (by kernel_rfl) (by kernel_rfl) (fun _ _ _ h => h) (Or.inl ⟨by rfl, ?_⟩) (by assumption) ?_
    rotate_left 1
    · intro w hSw; (try dsimp only at hSw); go_simp; try (with_reducible rfl)
    try simp only [Act.put, List.setIfInBounds_toArray, List.set_cons_zero, List.set_cons_succ]
    refine wpAnyH_take (i := 9) (oi := ⟨some 21, _, _, _, _, _⟩) (v := ?_) rfl (by kernel_rfl) (by kernel_rfl) (by kernel_rfl) (fun _ _ _ h => h) (Or.inl ⟨by rfl, ?_⟩) (by assumption) ?_
    rotate_left 1
    · intro w hSw; (try dsimp only at hSw); go_simp; try (with_reducible rfl)
    try simp only [Act.put, List.setIfInBounds_toArray, List.set_cons_zero, List.set_cons_succ]
    refine wpAnyH_take (i := 10) (oi := ⟨some 22, _, _, _, _, _⟩) (v := ?_) rfl (by kernel_rfl) (by kernel_rfl) (by kernel_rfl) (fun _ _ _ h => h) (Or.inl ⟨by rfl, ?_⟩) (by assumption) ?_
    rotate_left 1
    · intro w hSw; (try dsimp only at hSw); go_simp; try (with_reducible rfl)
    try simp only [Act.put, List.setIfInBounds_toArray, List.set_cons_zero, List.set_cons_succ]
    refine wpAnyH_take (i := 11) (oi := ⟨some 23, _, _, _, _, _⟩) (v := ?_) rfl (by kernel_rfl) (by kernel_rfl) (by kernel_rfl) (fun _ _ _ h => h) (Or.inl ⟨by rfl, ?_⟩) (by assumption) ?_
    rotate_left 1
    · intro w hSw; (try dsimp only at hSw); go_simp; try (with_reducible rfl)
    try simp only [Act.put, List.setIfInBounds_toArray, List.set_cons_zero, List.set_cons_succ]
    refine wpAnyH_ready (rs := [12]) (by kernel_rfl) (by simp) ?_
    refine AllReadyH.cons (o := ⟨some 24, _, _, _, _, _⟩) rfl (fun K hK => ?_) AllReadyH.nil
    go_simp
    with_reducible refine (nv _ hHeld.2.2.2.2.2.2.2.2.2.2.2.2.2.2).mono ?_
    rintro e wq ⟨rfl, hb⟩
    go_wp2_with fail
    replace R0 := Lib.hid (by first | exact bblk hb (lt_of_heap R0.out) R0.out | exact bblk_d hb (lt_of_heap R0.out) R0.out)
    refine hK.out _ _ ?_ (fun hHeld2 => ?_)
    · exact ⟨cell_later hb hHeld.1, cell_later hb hHeld.2.1, cell_later hb hHeld.2.2.1, cell_later hb hHeld.2.2.2.1, cell_later hb hHeld.2.2.2.2.1, cell_later hb hHeld.2.2.2.2.2.1, cell_later hb hHeld.2.2.2.2.2.2.1, cell_later hb hHeld.2.2.2.2.2.2.2.1, cell_later hb hHeld.2.2.2.2.2.2.2.2.1, cell_later hb hHeld.2.2.2.2.2.2.2.2.2.1, cell_later hb hHeld.2.2.2.2.2.2.2.2.2.2.1, cell_later hb hHeld.2.2.2.2.2.2.2.2.2.2.2.1, cell_later hb hHeld.2.2.2.2.2.2.2.2.2.2.2.2.1, cell_later hb hHeld.2.2.2.2.2.2.2.2.2.2.2.2.2.1, hHeld.2.2.2.2.2.2.2.2.2.2.2.2.2.2.trans (hb.mono hHeld.2.2.2.2.2.2.2.2.2.2.2.2.2.2.size)⟩
    clear hK K hHeld hb
    have hHeld := hHeld2
    clear hHeld2
    try simp only [Act.put, List.setIfInBounds_toArray, List.set_cons_zero, List.set_cons_succ]
    refine wpAnyH_take (i := 13) (oi := ⟨some 25, _, _, _, _, _⟩) (v := ?_) rfl (by kernel_rfl) (by kernel_rfl) (by kernel_rfl) (fun _ _ _ h => h) (Or.inl ⟨by rfl, ?_⟩) (by assumption) ?_
    rotate_left 1
    · intro w hSw; (try dsimp only at hSw); go_simp; try (with_reducible rfl)
    try simp only [Act.put, List.setIfInBounds_toArray, List.set_cons_zero, List.set_cons_succ]
    refine wpAnyH_take (i := 14) (oi := ⟨some 26, _, _, _, _, _⟩) (v := ?_) rfl (by kernel_rfl) (by kernel_rfl) (by kernel_rfl) (fun _ _ _ h => h) (Or.inl ⟨by rfl, ?_⟩) (by assumption) ?_
    rotate_left 1
    · intro w hSw; (try dsimp only at hSw); go_simp; try (with_reducible rfl)
    try simp only [Act.put, List.setIfInBounds_toArray, List.set_cons_zero, List.set_cons_succ]
    refine wpAnyH_take (i := 15) (oi := ⟨some 27, _, _, _, _, _⟩) (v := ?_) rfl (by kernel_rfl) (by kernel_rfl) (by kernel_rfl) (fun _ _ _ h => h) (Or.inl ⟨by rfl, ?_⟩) (by assumption) ?_
    rotate_left 1
    · intro w hSw; (try dsimp only at hSw); go_simp; try (with_reducible rfl)
    try simp only [Act.put, List.setIfInBounds_toArray, List.set_cons_zero, List.set_cons_succ]
    refine wpAnyH_take (i := 16) (oi := ⟨some 28, _, _, _, _, _⟩) (v := ?_) rfl (by kernel_rfl) (by kernel_rfl) (by kernel_rfl) (fun _ _ _ h => h) (Or.inl ⟨by rfl, ?_⟩) (by assumption) ?_
    rotate_left 1
    · intro w hSw; (try dsimp only at hSw); go_simp; try (with_reducible rfl)
    try simp only [Act.put, List.setIfInBounds_toArray, List.set_cons_zero, List.set_cons_succ]
    refine wpAnyH_take (i := 17) (oi := ⟨some 29, _, _, _, _, _⟩) (v := ?_) rfl (by kernel_rfl) (by kernel_rfl) (by kernel_rfl) (fun _ _ _ h => h) (Or.inl ⟨by rfl, ?_⟩) (by assumption) ?_
    rotate_left 1
    · intro w hSw; (try dsimp only at hSw); go_simp; try (with_reducible rfl)
    try simp only [Act.put, List.setIfInBounds_toArray, List.set_cons_zero, List.set_cons_succ]
    obtain ⟨⟨z0, z1, z2, z3, z4, z5, z6, z7, z8, z9, z10, z11⟩, fz, hzl⟩ := all12 R0.out
    have f0 := fz 0; have f1 := fz 1; have f2 := fz 2; have f3 := fz 3; have f4 := fz 4; have f5 := fz 5
    have f6 := fz 6; have f7 := fz 7; have f8 := fz 8; have f9 := fz 9; have f10 := fz 10; have f11 := fz 11
    refine wpAnyH_ready (rs := [18]) (by kernel_rfl) (by simp) ?_
    refine AllReadyH.cons (o := ⟨none, _, _, _, _, _⟩) rfl (fun K hK => ?_) AllReadyH.nil
    go_simp
    refine hK.out _ _ ?_ (fun hHeld2 => ?_)
    · refine ppo_set hsb ?_; refine ppo_set hsb ?_; refine ppo_set hsb ?_; refine ppo_set hsb ?_; refine ppo_set hsb ?_; refine ppo_set hsb ?_; refine ppo_set hsb ?_; refine ppo_set hsb ?_; refine ppo_set hsb ?_; refine ppo_set hsb ?_; refine ppo_set hsb ?_; refine ppo_set hsb ?_; exact hHeld
    clear hK K hHeld
    have hHeld := hHeld2
    clear hHeld2
    try simp only [Act.put, List.setIfInBounds_toArray, List.set_cons_zero, List.set_cons_succ]
    refine wpAnyH_take (i := 19) (oi := ⟨some 3, _, _, _, _, _⟩) (v := ?_) rfl (by kernel_rfl) (by kernel_rfl) (by kernel_rfl) (fun _ _ _ h => h) (Or.inl ⟨by rfl, ?_⟩) (by assumption) ?_
    rotate_left 1
    · intro w hSw; (try dsimp only at hSw); go_simp; try (with_reducible rfl)
    try simp only [Act.put, List.setIfInBounds_toArray, List.set_cons_zero, List.set_cons_succ]
    refine wpAnyH_done (by kernel_rfl) ?_ _
    try simp only [Act.put, List.setIfInBounds_toArray, List.set_cons_zero, List.set_cons_succ]
    have D9 := Lib.hid hHeld.2.2.2.2.2.2.2.2.2.2.2.2.2.2
    clear hHeld
    go_wp2_with fail
    refine bodyPost_ret (pr_resO _ _ _ _ _ _ _ _ _ _ _ _ _ _ _ _ _ rfl rfl (put12_at _ _ _ _ _ _ _ _ _ _ _ _ R0.out)) rfl ⟨rfl, D9.out⟩
end Go.Proofs.YtdikcenhakfheaaGreatDoor

/- The program's within, of sets. -/
namespace Go.Proofs.YtdikcenhakfheaaGreatDoor
open Go.RowKit
set_option linter.unusedVariables false

/-- Two sets are compared. -/
theorem set_eq (x0 x1 x2 x3 x4 y0 y1 y2 y3 y4 : Int) (w : World) : (binOp .eql 74 (.agg #[.int .u64 x0, .int .u64 x1, .int .u64 x2, .int .u64 x3, .int .u64 x4]) (.agg #[.int .u64 y0, .int .u64 y1, .int .u64 y2, .int .u64 y3, .int .u64 y4])).run Tryz.prog w = .ok (.bool (decide ([x0, x1, x2, x3, x4] = [y0, y1, y2, y3, y4]))) w := by
  have hp : ∀ (cs : Array Value) (k : Nat) (v : Value), cs[k]? = some v → (part 72 cs k).run Tryz.prog w = .ok v w := by
    intro cs k v h
    have ha : (isAgg 72).run Tryz.prog w = .ok false w := by kernel_rfl
    simp [part, ha, h]
  have hs : (sizeOf 72).run Tryz.prog w = .ok 1 w := by kernel_rfl
  have hu : (underlying 74).run Tryz.prog w = .ok (.array 5 72) w := by kernel_rfl
  rw [run_eql_struct, show (10000:Nat) = 9998+1+1 from rfl]
  have he : ∀ a b : Int, (Op.equalIn (9998 + 1) 72 (.int .u64 a) (.int .u64 b)).run Tryz.prog w = .ok (a == b) w := fun a b => run_equalIn_int _ _ _ _ .u64 _ _ Tryz.underlying72
  rw [Op.equalIn]
  simp [hu, hs, hp, he, Std.Legacy.Range.forIn_eq_forIn_range', Std.Legacy.Range.size, List.range'_succ, List.range'_zero, List.forIn_cons, List.forIn_nil]
  by_cases h0 : x0 = y0 <;> by_cases h1 : x1 = y1 <;> by_cases h2 : x2 = y2 <;> by_cases h3 : x3 = y3 <;> by_cases h4 : x4 = y4 <;> simp [h0, h1, h2, h3, h4]

theorem five_iff (f g : Nat → Nat) : ([(f 0 : Int), (f 1 : Int), (f 2 : Int), (f 3 : Int), (f 4 : Int)] = [(g 0 : Int), (g 1 : Int), (g 2 : Int), (g 3 : Int), (g 4 : Int)]) ↔ ∀ r, r < 5 → f r = g r := by
  constructor
  · intro h r hr
    injection h with h0 h; injection h with h1 h; injection h with h2 h; injection h with h3 h; injection h with h4 h
    rcases (show r = 0 ∨ r = 1 ∨ r = 2 ∨ r = 3 ∨ r = 4 by omega) with rfl | rfl | rfl | rfl | rfl <;> omega
  · intro h
    rw [h 0 (by omega), h 1 (by omega), h 2 (by omega), h 3 (by omega), h 4 (by omega)]

/-- What within answers. -/
def inF (f g : Nat → Nat) : Bool := decide (joinF f g 0 = g 0 ∧ joinF f g 1 = g 1 ∧ joinF f g 2 = g 2 ∧ joinF f g 3 = g 3 ∧ joinF f g 4 = g 4)
theorem five_all (P : Nat → Prop) : (P 0 ∧ P 1 ∧ P 2 ∧ P 3 ∧ P 4) ↔ ∀ r, r < 5 → P r := by
  constructor
  · rintro ⟨h0, h1, h2, h3, h4⟩ r hr
    rcases (show r = 0 ∨ r = 1 ∨ r = 2 ∨ r = 3 ∨ r = 4 by omega) with rfl | rfl | rfl | rfl | rfl <;> assumption
  · intro h
    exact ⟨h 0 (by omega), h 1 (by omega), h 2 (by omega), h 3 (by omega), h 4 (by omega)⟩
theorem inF_iff {f g : Nat → Nat} : inF f g = true ↔ ∀ r, r < 5 → joinF f g r = g r := by
  unfold inF; rw [decide_eq_true_iff]; exact five_all fun r => joinF f g r = g r

theorem ten_up {w wr w' : World} {p q : Nat} {x0 x1 x2 x3 x4 y0 y1 y2 y3 y4 : Value} (B : Below wr.heap.size wr w') (h : ((wr.cell? ⟨p, 0, none⟩ = some x0 ∧ wr.cell? ⟨p, 1, none⟩ = some x1 ∧ wr.cell? ⟨p, 2, none⟩ = some x2 ∧ wr.cell? ⟨p, 3, none⟩ = some x3 ∧ wr.cell? ⟨p, 4, none⟩ = some x4) ∧ wr.cell? ⟨q, 0, none⟩ = some y0 ∧ wr.cell? ⟨q, 1, none⟩ = some y1 ∧ wr.cell? ⟨q, 2, none⟩ = some y2 ∧ wr.cell? ⟨q, 3, none⟩ = some y3 ∧ wr.cell? ⟨q, 4, none⟩ = some y4) ∧ Below w.heap.size w wr) : ((w'.cell? ⟨p, 0, none⟩ = some x0 ∧ w'.cell? ⟨p, 1, none⟩ = some x1 ∧ w'.cell? ⟨p, 2, none⟩ = some x2 ∧ w'.cell? ⟨p, 3, none⟩ = some x3 ∧ w'.cell? ⟨p, 4, none⟩ = some x4) ∧ w'.cell? ⟨q, 0, none⟩ = some y0 ∧ w'.cell? ⟨q, 1, none⟩ = some y1 ∧ w'.cell? ⟨q, 2, none⟩ = some y2 ∧ w'.cell? ⟨q, 3, none⟩ = some y3 ∧ w'.cell? ⟨q, 4, none⟩ = some y4) ∧ Below w.heap.size w w' := by
  obtain ⟨⟨⟨a0, a1, a2, a3, a4⟩, b0, b1, b2, b3, b4⟩, d⟩ := h
  exact ⟨⟨⟨cell_later B a0, cell_later B a1, cell_later B a2, cell_later B a3, cell_later B a4⟩, cell_later B b0, cell_later B b1, cell_later B b2, cell_later B b3, cell_later B b4⟩, bstep d B⟩

set_option maxRecDepth 100000 in
set_option maxHeartbeats 4000000 in
theorem within_any (f g : Nat → Nat) (w : World) (hf : ∀ r, f r < 2251799813685248) (hg : ∀ r, g r < 2251799813685248) :
    Calls Tryz.prog 48 #[setV f, setV g] w fun e w' => e = .returned (.bool (inF f g)) ∧ Below w.heap.size w w' := by
  have sj := fun w => join_any f g w hf hg
  have se := fun w => set_eq (joinF f g 0) (joinF f g 1) (joinF f g 2) (joinF f g 3) (joinF f g 4) (g 0) (g 1) (g 2) (g 3) (g 4) w
  have hd : decide ([(joinF f g 0 : Int), (joinF f g 1 : Int), (joinF f g 2 : Int), (joinF f g 3 : Int), (joinF f g 4 : Int)] = [(g 0 : Int), (g 1 : Int), (g 2 : Int), (g 3 : Int), (g 4 : Int)]) = inF f g := by
    unfold inF; exact decide_eq_decide.2 ((five_iff _ _).trans (five_all fun r => joinF f g r = g r).symm)
  rw [hd] at se
  clear hd hf hg
  generalize joinF f g = j at sj se
  generalize inF f g = q at se ⊢
  unfold setV at sj ⊢
  go_enter Tryz.func48, Tryz.ntmps48
  go_upto_region 1 with fail
  have D0 : Hid (Below w.heap.size w ((w.alloc (.cells #[.int .u64 (f 0), .int .u64 (f 1), .int .u64 (f 2), .int .u64 (f 3), .int .u64 (f 4)] 74)).alloc (.cells #[.int .u64 (g 0), .int .u64 (g 1), .int .u64 (g 2), .int .u64 (g 3), .int .u64 (g 4)] 74)).drew) := Lib.hid (((Below.refl _ _).alloc (Nat.le_refl _) _).alloc (by simp) _).drew
  have A0 : Hid (Set5 ((w.alloc (.cells #[.int .u64 (f 0), .int .u64 (f 1), .int .u64 (f 2), .int .u64 (f 3), .int .u64 (f 4)] 74)).alloc (.cells #[.int .u64 (g 0), .int .u64 (g 1), .int .u64 (g 2), .int .u64 (g 3), .int .u64 (g 4)] 74)) w.heap.size f) := Lib.hid ((Below.heap_alloc _ _ _ (by simp)).trans (heap_alloc_new w _))
  have B0 : Hid (Set5 ((w.alloc (.cells #[.int .u64 (f 0), .int .u64 (f 1), .int .u64 (f 2), .int .u64 (f 3), .int .u64 (f 4)] 74)).alloc (.cells #[.int .u64 (g 0), .int .u64 (g 1), .int .u64 (g 2), .int .u64 (g 3), .int .u64 (g 4)] 74)) (w.heap.size + 1) g) := Lib.hid (heap_alloc_at _ _ _ (by simp))
  have hz : ((w.alloc (.cells #[.int .u64 (f 0), .int .u64 (f 1), .int .u64 (f 2), .int .u64 (f 3), .int .u64 (f 4)] 74)).alloc (.cells #[.int .u64 (g 0), .int .u64 (g 1), .int .u64 (g 2), .int .u64 (g 3), .int .u64 (g 4)] 74)).heap.size = w.heap.size + 2 := by simp
  generalize ((w.alloc (.cells #[.int .u64 (f 0), .int .u64 (f 1), .int .u64 (f 2), .int .u64 (f 3), .int .u64 (f 4)] 74)).alloc (.cells #[.int .u64 (g 0), .int .u64 (g 1), .int .u64 (g 2), .int .u64 (g 3), .int .u64 (g 4)] 74)) = W at D0 A0 B0 hz ⊢
  obtain ⟨a0, a1, a2, a3, a4⟩ := A0.out.five
  obtain ⟨b0, b1, b2, b3, b4⟩ := B0.out.five
  clear A0 B0
  have S0 : Hid (((W.cell? ⟨w.heap.size, 0, none⟩ = some (.int .u64 (f 0)) ∧ W.cell? ⟨w.heap.size, 1, none⟩ = some (.int .u64 (f 1)) ∧ W.cell? ⟨w.heap.size, 2, none⟩ = some (.int .u64 (f 2)) ∧ W.cell? ⟨w.heap.size, 3, none⟩ = some (.int .u64 (f 3)) ∧ W.cell? ⟨w.heap.size, 4, none⟩ = some (.int .u64 (f 4))) ∧ W.cell? ⟨w.heap.size + 1, 0, none⟩ = some (.int .u64 (g 0)) ∧ W.cell? ⟨w.heap.size + 1, 1, none⟩ = some (.int .u64 (g 1)) ∧ W.cell? ⟨w.heap.size + 1, 2, none⟩ = some (.int .u64 (g 2)) ∧ W.cell? ⟨w.heap.size + 1, 3, none⟩ = some (.int .u64 (g 3)) ∧ W.cell? ⟨w.heap.size + 1, 4, none⟩ = some (.int .u64 (g 4))) ∧ Below w.heap.size w W.drew) := Lib.hid ⟨⟨⟨a0, a1, a2, a3, a4⟩, b0, b1, b2, b3, b4⟩, D0.out⟩
  clear a0 a1 a2 a3 a4 b0 b1 b2 b3 b4 D0
  go_region_held3 (fun w' => ((w'.cell? ⟨w.heap.size, 0, none⟩ = some (.int .u64 (f 0)) ∧ w'.cell? ⟨w.heap.size, 1, none⟩ = some (.int .u64 (f 1)) ∧ w'.cell? ⟨w.heap.size, 2, none⟩ = some (.int .u64 (f 2)) ∧ w'.cell? ⟨w.heap.size, 3, none⟩ = some (.int .u64 (f 3)) ∧ w'.cell? ⟨w.heap.size, 4, none⟩ = some (.int .u64 (f 4))) ∧ w'.cell? ⟨w.heap.size + 1, 0, none⟩ = some (.int .u64 (g 0)) ∧ w'.cell? ⟨w.heap.size + 1, 1, none⟩ = some (.int .u64 (g 1)) ∧ w'.cell? ⟨w.heap.size + 1, 2, none⟩ = some (.int .u64 (g 2)) ∧ w'.cell? ⟨w.heap.size + 1, 3, none⟩ = some (.int .u64 (g 3)) ∧ w'.cell? ⟨w.heap.size + 1, 4, none⟩ = some (.int .u64 (g 4))) ∧ Below w.heap.size w w') (first | exact S0.out | exact ten_up (by assumption) (by assumption))
    (first | (go_at_call 55; (with_reducible refine (sj _).mono ?_); rintro e w' ⟨rfl, hb⟩))
  rename_i hHeld
  go_wp2_with fail
  go_ret
  exact ⟨rfl, hHeld.2⟩
end Go.Proofs.YtdikcenhakfheaaGreatDoor

/- The program's within of two sets; DepsWithin. -/
namespace Go.Proofs.YtdikcenhakfheaaGreatDoor
open Go.RowKit
set_option linter.unusedVariables false

theorem win_val {A B : List Pid} (ha : srtB A = true) (hb : srtB B = true) : inF (setF A) (setF B) = inP A B := by
  rw [Bool.eq_iff_iff, inF_iff]; exact within_set A B ha hb

set_option maxRecDepth 100000 in
set_option maxHeartbeats 2000000 in
theorem iwin_any (u v : Value) (A B : List Pid) (w : World) (h : Ids w u A) (g : Ids w v B) :
    Calls Tryz.prog 13 #[u, v] w fun e w' => e = .returned (.bool (withinB A B)) ∧ Below w.heap.size w w' := by
  have h := Lib.hid h
  have g := Lib.hid g
  have sw := fun w => within_any (setF A) (setF B) w (setF_lt A) (setF_lt B)
  have hv : Hid (srtB A = true → srtB B = true → inF (setF A) (setF B) = inP A B) := Lib.hid win_val
  unfold withinB
  obtain ⟨f, hf⟩ : ∃ f, Hid (setF A = f) := ⟨_, Lib.hid rfl⟩
  obtain ⟨f', hf'⟩ : ∃ f', Hid (setF B = f') := ⟨_, Lib.hid rfl⟩
  obtain ⟨qi, hqi⟩ : ∃ q, Hid (inF f f' = q) := ⟨_, Lib.hid rfl⟩
  rw [hf.out, hf'.out, hqi.out] at sw hv
  obtain ⟨qa, hqa⟩ : ∃ q, Hid (srtB A = q) := ⟨_, Lib.hid rfl⟩
  obtain ⟨qb, hqb⟩ : ∃ q, Hid (srtB B = q) := ⟨_, Lib.hid rfl⟩
  rw [hqa.out, hqb.out] at hv ⊢
  go_enter Tryz.func13, Tryz.ntmps13
  go_wp2_with fail
  refine (iset_any u A _ h.out).mono ?_
  rintro e w1 ⟨rfl, hb⟩
  rw [hf.out, hqa.out]
  have D1 := Lib.hid (hb.alloc hb.size (.cells #[.int .u64 (f 0), .int .u64 (f 1), .int .u64 (f 2), .int .u64 (f 3), .int .u64 (f 4)] 74))
  have A1 : Hid (Set5 (w1.alloc (.cells #[.int .u64 (f 0), .int .u64 (f 1), .int .u64 (f 2), .int .u64 (f 3), .int .u64 (f 4)] 74)) w1.heap.size f) := Lib.hid (heap_alloc_new w1 _)
  have hb1 := hb.size
  have g1 := Lib.hid (g.out.up D1.out (Nat.le_refl _))
  clear hb h g
  unfold setV at sw ⊢
  go_wp2_with fail
  refine (iset_any v B _ g1.out).mono ?_
  rintro e w2 ⟨rfl, hb⟩
  rw [hf'.out, hqb.out]
  unfold setV
  have hs1 : w1.heap.size < w2.heap.size := Nat.lt_of_lt_of_le (by simp) hb.size
  have A2 := A1.out.up hb (by simp)
  have A3 := Lib.hid (A2.up ((Below.refl _ _).alloc (Nat.le_refl _) (.cells #[.int .u64 (f' 0), .int .u64 (f' 1), .int .u64 (f' 2), .int .u64 (f' 3), .int .u64 (f' 4)] 74)) hs1)
  have D2 := bstep D1.out hb
  have D2 := Lib.hid (D2.alloc D2.size (.cells #[.int .u64 (f' 0), .int .u64 (f' 1), .int .u64 (f' 2), .int .u64 (f' 3), .int .u64 (f' 4)] 74))
  obtain ⟨x0, x1, x2, x3, x4⟩ := A2.five
  clear hb A1 A2 A3 D1 g1
  cases qa
  · go_wp2_with fail
    go_ret
    exact ⟨rfl, D2.out⟩
  · cases qb
    · go_wp2_with fail
      go_ret
      exact ⟨rfl, D2.out⟩
    · have hv2 := Lib.hid (hv.out rfl rfl)
      clear hv
      go_wp2_with fail
      refine (sw _).mono ?_
      rintro e w3 ⟨rfl, hb⟩
      have D3 := Lib.hid (bstep D2.out hb)
      clear hb D2 sw x0 x1 x2 x3 x4
      go_wp2_with fail
      go_ret
      exact ⟨by rw [hv2.out]; rfl, D3.out⟩
end Go.Proofs.YtdikcenhakfheaaGreatDoor
