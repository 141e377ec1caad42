/- Texts laid together. -/
import Derived.Test.YtdikcenhakfheaaGreatDoorC05
import Derived.Deep.RegionHeld3
import Derived.Test.YtdikcenhakfheaaGreatDoorC11
import Derived.Test.YtdikcenhakfheaaGreatDoorC02
import Derived.Deep.DeepCutAuto
import Derived.Test.YtdikcenhakfheaaGreatDoorC19
import Derived.Test.YtdikcenhakfheaaGreatDoorC21
/- The program's proposal as an entry. -/
namespace Go.Proofs.YtdikcenhakfheaaGreatDoor
open Go.RowKit
set_option linter.unusedVariables false

theorem en_resPe (tm : Array Value) (w : World) (b : Nat) (x0 x1 x2 x3 x4 x5 x6 x7 x8 : Value) (t : TypeId) (h2 : tm[2]? = some (.pointer (some ⟨b, 0, none⟩))) (h : w.heap[b]? = some (.cells #[x0, x1, x2, x3, x4, x5, x6, x7, x8] t (0, 0))) :
    (results Tryz.f75 tm).run Tryz.prog w = .ok (.agg #[x0, x1, x2, x3, x4, x5, x6, x7, x8]) w := by
  obtain ⟨t0, t1, t2, t3, t4, t5, t6, t7, t8⟩ := nine_cells h
  simp [results, Tryz.results75, go_sem, h2, t0, t1, t2, t3, t4, t5, t6, t7, t8]
section
variable {w wc w' : World} {a : Pid} {bal k key v r : Int} {g : Nat → Nat}
theorem ppe_keep (hb : Below wc.heap.size wc w') (h : (wc.cell? ⟨w.heap.size, 0, none⟩ = some (.int .i64 a.1) ∧ wc.cell? ⟨w.heap.size, 1, none⟩ = some (.int .i64 a.2) ∧ wc.cell? ⟨w.heap.size, 2, none⟩ = some (.int .i64 bal) ∧ wc.cell? ⟨w.heap.size, 3, none⟩ = some (.int .i64 k) ∧ wc.cell? ⟨w.heap.size, 4, none⟩ = some (.int .i64 key) ∧ wc.cell? ⟨w.heap.size, 5, none⟩ = some (.int .i64 v) ∧ wc.cell? ⟨w.heap.size, 6, none⟩ = some (.int .i64 r) ∧ wc.cell? ⟨w.heap.size, 7, none⟩ = some (.int .u64 (g 0)) ∧ wc.cell? ⟨w.heap.size, 8, none⟩ = some (.int .u64 (g 1)) ∧ wc.cell? ⟨w.heap.size, 9, none⟩ = some (.int .u64 (g 2)) ∧ wc.cell? ⟨w.heap.size, 10, none⟩ = some (.int .u64 (g 3)) ∧ wc.cell? ⟨w.heap.size, 11, none⟩ = some (.int .u64 (g 4))) ∧ Below w.heap.size w wc) : (w'.cell? ⟨w.heap.size, 0, none⟩ = some (.int .i64 a.1) ∧ w'.cell? ⟨w.heap.size, 1, none⟩ = some (.int .i64 a.2) ∧ w'.cell? ⟨w.heap.size, 2, none⟩ = some (.int .i64 bal) ∧ w'.cell? ⟨w.heap.size, 3, none⟩ = some (.int .i64 k) ∧ w'.cell? ⟨w.heap.size, 4, none⟩ = some (.int .i64 key) ∧ w'.cell? ⟨w.heap.size, 5, none⟩ = some (.int .i64 v) ∧ w'.cell? ⟨w.heap.size, 6, none⟩ = some (.int .i64 r) ∧ w'.cell? ⟨w.heap.size, 7, none⟩ = some (.int .u64 (g 0)) ∧ w'.cell? ⟨w.heap.size, 8, none⟩ = some (.int .u64 (g 1)) ∧ w'.cell? ⟨w.heap.size, 9, none⟩ = some (.int .u64 (g 2)) ∧ w'.cell? ⟨w.heap.size, 10, none⟩ = some (.int .u64 (g 3)) ∧ w'.cell? ⟨w.heap.size, 11, none⟩ = some (.int .u64 (g 4))) ∧ Below w.heap.size w w' :=
  ⟨⟨cell_later hb h.1.1, cell_later hb h.1.2.1, cell_later hb h.1.2.2.1, cell_later hb h.1.2.2.2.1, cell_later hb h.1.2.2.2.2.1, cell_later hb h.1.2.2.2.2.2.1, cell_later hb h.1.2.2.2.2.2.2.1, cell_later hb h.1.2.2.2.2.2.2.2.1, cell_later hb h.1.2.2.2.2.2.2.2.2.1, cell_later hb h.1.2.2.2.2.2.2.2.2.2.1, cell_later hb h.1.2.2.2.2.2.2.2.2.2.2.1, cell_later hb h.1.2.2.2.2.2.2.2.2.2.2.2⟩, h.2.trans (hb.mono h.2.size)⟩
theorem ppe_drew (h : (wc.cell? ⟨w.heap.size, 0, none⟩ = some (.int .i64 a.1) ∧ wc.cell? ⟨w.heap.size, 1, none⟩ = some (.int .i64 a.2) ∧ wc.cell? ⟨w.heap.size, 2, none⟩ = some (.int .i64 bal) ∧ wc.cell? ⟨w.heap.size, 3, none⟩ = some (.int .i64 k) ∧ wc.cell? ⟨w.heap.size, 4, none⟩ = some (.int .i64 key) ∧ wc.cell? ⟨w.heap.size, 5, none⟩ = some (.int .i64 v) ∧ wc.cell? ⟨w.heap.size, 6, none⟩ = some (.int .i64 r) ∧ wc.cell? ⟨w.heap.size, 7, none⟩ = some (.int .u64 (g 0)) ∧ wc.cell? ⟨w.heap.size, 8, none⟩ = some (.int .u64 (g 1)) ∧ wc.cell? ⟨w.heap.size, 9, none⟩ = some (.int .u64 (g 2)) ∧ wc.cell? ⟨w.heap.size, 10, none⟩ = some (.int .u64 (g 3)) ∧ wc.cell? ⟨w.heap.size, 11, none⟩ = some (.int .u64 (g 4))) ∧ Below w.heap.size w wc) : (wc.drew.cell? ⟨w.heap.size, 0, none⟩ = some (.int .i64 a.1) ∧ wc.drew.cell? ⟨w.heap.size, 1, none⟩ = some (.int .i64 a.2) ∧ wc.drew.cell? ⟨w.heap.size, 2, none⟩ = some (.int .i64 bal) ∧ wc.drew.cell? ⟨w.heap.size, 3, none⟩ = some (.int .i64 k) ∧ wc.drew.cell? ⟨w.heap.size, 4, none⟩ = some (.int .i64 key) ∧ wc.drew.cell? ⟨w.heap.size, 5, none⟩ = some (.int .i64 v) ∧ wc.drew.cell? ⟨w.heap.size, 6, none⟩ = some (.int .i64 r) ∧ wc.drew.cell? ⟨w.heap.size, 7, none⟩ = some (.int .u64 (g 0)) ∧ wc.drew.cell? ⟨w.heap.size, 8, none⟩ = some (.int .u64 (g 1)) ∧ wc.drew.cell? ⟨w.heap.size, 9, none⟩ = some (.int .u64 (g 2)) ∧ wc.drew.cell? ⟨w.heap.size, 10, none⟩ = some (.int .u64 (g 3)) ∧ wc.drew.cell? ⟨w.heap.size, 11, none⟩ = some (.int .u64 (g 4))) ∧ Below w.heap.size w wc.drew := ⟨h.1, h.2.drew⟩
theorem ppe_set {c i : Nat} {u : Value} (hc : w.heap.size < c) (h : (wc.cell? ⟨w.heap.size, 0, none⟩ = some (.int .i64 a.1) ∧ wc.cell? ⟨w.heap.size, 1, none⟩ = some (.int .i64 a.2) ∧ wc.cell? ⟨w.heap.size, 2, none⟩ = some (.int .i64 bal) ∧ wc.cell? ⟨w.heap.size, 3, none⟩ = some (.int .i64 k) ∧ wc.cell? ⟨w.heap.size, 4, none⟩ = some (.int .i64 key) ∧ wc.cell? ⟨w.heap.size, 5, none⟩ = some (.int .i64 v) ∧ wc.cell? ⟨w.heap.size, 6, none⟩ = some (.int .i64 r) ∧ wc.cell? ⟨w.heap.size, 7, none⟩ = some (.int .u64 (g 0)) ∧ wc.cell? ⟨w.heap.size, 8, none⟩ = some (.int .u64 (g 1)) ∧ wc.cell? ⟨w.heap.size, 9, none⟩ = some (.int .u64 (g 2)) ∧ wc.cell? ⟨w.heap.size, 10, none⟩ = some (.int .u64 (g 3)) ∧ wc.cell? ⟨w.heap.size, 11, none⟩ = some (.int .u64 (g 4))) ∧ Below w.heap.size w wc) : ((wc.setCell ⟨c, i, none⟩ u).cell? ⟨w.heap.size, 0, none⟩ = some (.int .i64 a.1) ∧ (wc.setCell ⟨c, i, none⟩ u).cell? ⟨w.heap.size, 1, none⟩ = some (.int .i64 a.2) ∧ (wc.setCell ⟨c, i, none⟩ u).cell? ⟨w.heap.size, 2, none⟩ = some (.int .i64 bal) ∧ (wc.setCell ⟨c, i, none⟩ u).cell? ⟨w.heap.size, 3, none⟩ = some (.int .i64 k) ∧ (wc.setCell ⟨c, i, none⟩ u).cell? ⟨w.heap.size, 4, none⟩ = some (.int .i64 key) ∧ (wc.setCell ⟨c, i, none⟩ u).cell? ⟨w.heap.size, 5, none⟩ = some (.int .i64 v) ∧ (wc.setCell ⟨c, i, none⟩ u).cell? ⟨w.heap.size, 6, none⟩ = some (.int .i64 r) ∧ (wc.setCell ⟨c, i, none⟩ u).cell? ⟨w.heap.size, 7, none⟩ = some (.int .u64 (g 0)) ∧ (wc.setCell ⟨c, i, none⟩ u).cell? ⟨w.heap.size, 8, none⟩ = some (.int .u64 (g 1)) ∧ (wc.setCell ⟨c, i, none⟩ u).cell? ⟨w.heap.size, 9, none⟩ = some (.int .u64 (g 2)) ∧ (wc.setCell ⟨c, i, none⟩ u).cell? ⟨w.heap.size, 10, none⟩ = some (.int .u64 (g 3)) ∧ (wc.setCell ⟨c, i, none⟩ u).cell? ⟨w.heap.size, 11, none⟩ = some (.int .u64 (g 4))) ∧ Below w.heap.size w (wc.setCell ⟨c, i, none⟩ u) :=
  ⟨⟨cell_set u (by omega) h.1.1, cell_set u (by omega) h.1.2.1, cell_set u (by omega) h.1.2.2.1, cell_set u (by omega) h.1.2.2.2.1, cell_set u (by omega) h.1.2.2.2.2.1, cell_set u (by omega) h.1.2.2.2.2.2.1, cell_set u (by omega) h.1.2.2.2.2.2.2.1, cell_set u (by omega) h.1.2.2.2.2.2.2.2.1, cell_set u (by omega) h.1.2.2.2.2.2.2.2.2.1, cell_set u (by omega) h.1.2.2.2.2.2.2.2.2.2.1, cell_set u (by omega) h.1.2.2.2.2.2.2.2.2.2.2.1, cell_set u (by omega) h.1.2.2.2.2.2.2.2.2.2.2.2⟩, h.2.setCell (p := ⟨c, i, none⟩) (by show w.heap.size ≤ c; omega) u⟩
end

set_option maxRecDepth 100000 in
set_option maxHeartbeats 4000000 in
theorem ientryP_any (a : Pid) (bal k key v r : Int) (g : Nat → Nat) (w : World) (hg : ∀ r, g r < 2251799813685248) (hT : TabIn w) :
    Calls Tryz.prog 75 #[prV a bal k key v r g] w fun e w' => ∃ b u, w.heap.size ≤ b ∧ e = .returned (env ⟨a, bal, 1, k, key, v, r, idsO g⟩ u) ∧ OwnP w' b u (idsO g) ∧ Below w.heap.size w w' := by
  have ido := fun W (hb : Below w.heap.size w W) => idso_any g W hg (TabIn.up hT hb (Nat.le_refl _))
  unfold setV IdsoPost at ido
  unfold prV env
  dsimp only
  have A0 := (Below.heap_alloc _ (.cells #[.int .i64 0, .int .i64 0, .int .i64 0, .int .i64 0, .int .i64 0, .int .i64 0, .int .i64 0, .int .i64 0, .slice none 0 0] 30) _ (by simp)).trans (heap_alloc_new w (.cells #[.int .i64 a.1, .int .i64 a.2, .int .i64 bal, .int .i64 k, .int .i64 key, .int .i64 v, .int .i64 r, .int .u64 (g 0), .int .u64 (g 1), .int .u64 (g 2), .int .u64 (g 3), .int .u64 (g 4)] 78))
  have R0 := Lib.hid (heap_alloc_at (w.alloc (.cells #[.int .i64 a.1, .int .i64 a.2, .int .i64 bal, .int .i64 k, .int .i64 key, .int .i64 v, .int .i64 r, .int .u64 (g 0), .int .u64 (g 1), .int .u64 (g 2), .int .u64 (g 3), .int .u64 (g 4)] 78)) (.cells #[.int .i64 0, .int .i64 0, .int .i64 0, .int .i64 0, .int .i64 0, .int .i64 0, .int .i64 0, .int .i64 0, .slice none 0 0] 30) (w.heap.size + 1) (by simp))
  have D0 := ((Below.refl w.heap.size w).alloc (Nat.le_refl _) (.cells #[.int .i64 a.1, .int .i64 a.2, .int .i64 bal, .int .i64 k, .int .i64 key, .int .i64 v, .int .i64 r, .int .u64 (g 0), .int .u64 (g 1), .int .u64 (g 2), .int .u64 (g 3), .int .u64 (g 4)] 78)).alloc (by simp) (.cells #[.int .i64 0, .int .i64 0, .int .i64 0, .int .i64 0, .int .i64 0, .int .i64 0, .int .i64 0, .int .i64 0, .slice none 0 0] 30)
  have H0 := Lib.hid (show (((w.alloc (.cells #[.int .i64 a.1, .int .i64 a.2, .int .i64 bal, .int .i64 k, .int .i64 key, .int .i64 v, .int .i64 r, .int .u64 (g 0), .int .u64 (g 1), .int .u64 (g 2), .int .u64 (g 3), .int .u64 (g 4)] 78)).alloc (.cells #[.int .i64 0, .int .i64 0, .int .i64 0, .int .i64 0, .int .i64 0, .int .i64 0, .int .i64 0, .int .i64 0, .slice none 0 0] 30)).cell? ⟨w.heap.size, 0, none⟩ = some (.int .i64 a.1) ∧ ((w.alloc (.cells #[.int .i64 a.1, .int .i64 a.2, .int .i64 bal, .int .i64 k, .int .i64 key, .int .i64 v, .int .i64 r, .int .u64 (g 0), .int .u64 (g 1), .int .u64 (g 2), .int .u64 (g 3), .int .u64 (g 4)] 78)).alloc (.cells #[.int .i64 0, .int .i64 0, .int .i64 0, .int .i64 0, .int .i64 0, .int .i64 0, .int .i64 0, .int .i64 0, .slice none 0 0] 30)).cell? ⟨w.heap.size, 1, none⟩ = some (.int .i64 a.2) ∧ ((w.alloc (.cells #[.int .i64 a.1, .int .i64 a.2, .int .i64 bal, .int .i64 k, .int .i64 key, .int .i64 v, .int .i64 r, .int .u64 (g 0), .int .u64 (g 1), .int .u64 (g 2), .int .u64 (g 3), .int .u64 (g 4)] 78)).alloc (.cells #[.int .i64 0, .int .i64 0, .int .i64 0, .int .i64 0, .int .i64 0, .int .i64 0, .int .i64 0, .int .i64 0, .slice none 0 0] 30)).cell? ⟨w.heap.size, 2, none⟩ = some (.int .i64 bal) ∧ ((w.alloc (.cells #[.int .i64 a.1, .int .i64 a.2, .int .i64 bal, .int .i64 k, .int .i64 key, .int .i64 v, .int .i64 r, .int .u64 (g 0), .int .u64 (g 1), .int .u64 (g 2), .int .u64 (g 3), .int .u64 (g 4)] 78)).alloc (.cells #[.int .i64 0, .int .i64 0, .int .i64 0, .int .i64 0, .int .i64 0, .int .i64 0, .int .i64 0, .int .i64 0, .slice none 0 0] 30)).cell? ⟨w.heap.size, 3, none⟩ = some (.int .i64 k) ∧ ((w.alloc (.cells #[.int .i64 a.1, .int .i64 a.2, .int .i64 bal, .int .i64 k, .int .i64 key, .int .i64 v, .int .i64 r, .int .u64 (g 0), .int .u64 (g 1), .int .u64 (g 2), .int .u64 (g 3), .int .u64 (g 4)] 78)).alloc (.cells #[.int .i64 0, .int .i64 0, .int .i64 0, .int .i64 0, .int .i64 0, .int .i64 0, .int .i64 0, .int .i64 0, .slice none 0 0] 30)).cell? ⟨w.heap.size, 4, none⟩ = some (.int .i64 key) ∧ ((w.alloc (.cells #[.int .i64 a.1, .int .i64 a.2, .int .i64 bal, .int .i64 k, .int .i64 key, .int .i64 v, .int .i64 r, .int .u64 (g 0), .int .u64 (g 1), .int .u64 (g 2), .int .u64 (g 3), .int .u64 (g 4)] 78)).alloc (.cells #[.int .i64 0, .int .i64 0, .int .i64 0, .int .i64 0, .int .i64 0, .int .i64 0, .int .i64 0, .int .i64 0, .slice none 0 0] 30)).cell? ⟨w.heap.size, 5, none⟩ = some (.int .i64 v) ∧ ((w.alloc (.cells #[.int .i64 a.1, .int .i64 a.2, .int .i64 bal, .int .i64 k, .int .i64 key, .int .i64 v, .int .i64 r, .int .u64 (g 0), .int .u64 (g 1), .int .u64 (g 2), .int .u64 (g 3), .int .u64 (g 4)] 78)).alloc (.cells #[.int .i64 0, .int .i64 0, .int .i64 0, .int .i64 0, .int .i64 0, .int .i64 0, .int .i64 0, .int .i64 0, .slice none 0 0] 30)).cell? ⟨w.heap.size, 6, none⟩ = some (.int .i64 r) ∧ ((w.alloc (.cells #[.int .i64 a.1, .int .i64 a.2, .int .i64 bal, .int .i64 k, .int .i64 key, .int .i64 v, .int .i64 r, .int .u64 (g 0), .int .u64 (g 1), .int .u64 (g 2), .int .u64 (g 3), .int .u64 (g 4)] 78)).alloc (.cells #[.int .i64 0, .int .i64 0, .int .i64 0, .int .i64 0, .int .i64 0, .int .i64 0, .int .i64 0, .int .i64 0, .slice none 0 0] 30)).cell? ⟨w.heap.size, 7, none⟩ = some (.int .u64 (g 0)) ∧ ((w.alloc (.cells #[.int .i64 a.1, .int .i64 a.2, .int .i64 bal, .int .i64 k, .int .i64 key, .int .i64 v, .int .i64 r, .int .u64 (g 0), .int .u64 (g 1), .int .u64 (g 2), .int .u64 (g 3), .int .u64 (g 4)] 78)).alloc (.cells #[.int .i64 0, .int .i64 0, .int .i64 0, .int .i64 0, .int .i64 0, .int .i64 0, .int .i64 0, .int .i64 0, .slice none 0 0] 30)).cell? ⟨w.heap.size, 8, none⟩ = some (.int .u64 (g 1)) ∧ ((w.alloc (.cells #[.int .i64 a.1, .int .i64 a.2, .int .i64 bal, .int .i64 k, .int .i64 key, .int .i64 v, .int .i64 r, .int .u64 (g 0), .int .u64 (g 1), .int .u64 (g 2), .int .u64 (g 3), .int .u64 (g 4)] 78)).alloc (.cells #[.int .i64 0, .int .i64 0, .int .i64 0, .int .i64 0, .int .i64 0, .int .i64 0, .int .i64 0, .int .i64 0, .slice none 0 0] 30)).cell? ⟨w.heap.size, 9, none⟩ = some (.int .u64 (g 2)) ∧ ((w.alloc (.cells #[.int .i64 a.1, .int .i64 a.2, .int .i64 bal, .int .i64 k, .int .i64 key, .int .i64 v, .int .i64 r, .int .u64 (g 0), .int .u64 (g 1), .int .u64 (g 2), .int .u64 (g 3), .int .u64 (g 4)] 78)).alloc (.cells #[.int .i64 0, .int .i64 0, .int .i64 0, .int .i64 0, .int .i64 0, .int .i64 0, .int .i64 0, .int .i64 0, .slice none 0 0] 30)).cell? ⟨w.heap.size, 10, none⟩ = some (.int .u64 (g 3)) ∧ ((w.alloc (.cells #[.int .i64 a.1, .int .i64 a.2, .int .i64 bal, .int .i64 k, .int .i64 key, .int .i64 v, .int .i64 r, .int .u64 (g 0), .int .u64 (g 1), .int .u64 (g 2), .int .u64 (g 3), .int .u64 (g 4)] 78)).alloc (.cells #[.int .i64 0, .int .i64 0, .int .i64 0, .int .i64 0, .int .i64 0, .int .i64 0, .int .i64 0, .int .i64 0, .slice none 0 0] 30)).cell? ⟨w.heap.size, 11, none⟩ = some (.int .u64 (g 4))) ∧ Below w.heap.size w ((w.alloc (.cells #[.int .i64 a.1, .int .i64 a.2, .int .i64 bal, .int .i64 k, .int .i64 key, .int .i64 v, .int .i64 r, .int .u64 (g 0), .int .u64 (g 1), .int .u64 (g 2), .int .u64 (g 3), .int .u64 (g 4)] 78)).alloc (.cells #[.int .i64 0, .int .i64 0, .int .i64 0, .int .i64 0, .int .i64 0, .int .i64 0, .int .i64 0, .int .i64 0, .slice none 0 0] 30)) from ⟨(all12 A0).1, D0⟩)
  clear A0 D0 hg hT
  obtain ⟨C, hC⟩ : ∃ C, Hid (idsO g = C) := ⟨_, Lib.hid rfl⟩
  rw [hC.out] at ido ⊢
  go_enter Tryz.func75, Tryz.ntmps75
  go_upto_region 1 with fail
  generalize ((w.alloc (.cells #[.int .i64 a.1, .int .i64 a.2, .int .i64 bal, .int .i64 k, .int .i64 key, .int .i64 v, .int .i64 r, .int .u64 (g 0), .int .u64 (g 1), .int .u64 (g 2), .int .u64 (g 3), .int .u64 (g 4)] 78)).alloc (.cells #[.int .i64 0, .int .i64 0, .int .i64 0, .int .i64 0, .int .i64 0, .int .i64 0, .int .i64 0, .int .i64 0, .slice none 0 0] 30)) = w1 at R0 H0 ⊢
  have hR1 := lt_of_heap R0.out
  go_region_held3 (fun w' => (w'.cell? ⟨w.heap.size, 0, none⟩ = some (.int .i64 a.1) ∧ w'.cell? ⟨w.heap.size, 1, none⟩ = some (.int .i64 a.2) ∧ w'.cell? ⟨w.heap.size, 2, none⟩ = some (.int .i64 bal) ∧ w'.cell? ⟨w.heap.size, 3, none⟩ = some (.int .i64 k) ∧ w'.cell? ⟨w.heap.size, 4, none⟩ = some (.int .i64 key) ∧ w'.cell? ⟨w.heap.size, 5, none⟩ = some (.int .i64 v) ∧ w'.cell? ⟨w.heap.size, 6, none⟩ = some (.int .i64 r) ∧ w'.cell? ⟨w.heap.size, 7, none⟩ = some (.int .u64 (g 0)) ∧ w'.cell? ⟨w.heap.size, 8, none⟩ = some (.int .u64 (g 1)) ∧ w'.cell? ⟨w.heap.size, 9, none⟩ = some (.int .u64 (g 2)) ∧ w'.cell? ⟨w.heap.size, 10, none⟩ = some (.int .u64 (g 3)) ∧ w'.cell? ⟨w.heap.size, 11, none⟩ = some (.int .u64 (g 4))) ∧ Below w.heap.size w w') (first | (with_reducible assumption) | ((with_reducible refine ppe_set (c := w.heap.size + 1) (by omega) ?_); (with_reducible refine ppe_set (c := w.heap.size + 1) (by omega) ?_); (with_reducible refine ppe_set (c := w.heap.size + 1) (by omega) ?_); (with_reducible refine ppe_set (c := w.heap.size + 1) (by omega) ?_); (with_reducible refine ppe_set (c := w.heap.size + 1) (by omega) ?_); (with_reducible refine ppe_set (c := w.heap.size + 1) (by omega) ?_); (with_reducible refine ppe_set (c := w.heap.size + 1) (by omega) ?_); (with_reducible refine ppe_set (c := w.heap.size + 1) (by omega) ?_); (with_reducible refine ppe_set (c := w.heap.size + 1) (by omega) ?_); (with_reducible assumption)) | (with_reducible exact ppe_drew H0.out) | (with_reducible exact ppe_drew (by assumption)) | (with_reducible exact ppe_keep (by assumption) (by assumption)) | (with_reducible exact ppe_keep (by assumption) (ppe_drew (by assumption))))
    (first | (go_at_call 54; have hz5 := (by assumption : (_ ∧ _ ∧ _ ∧ _ ∧ _ ∧ _ ∧ _ ∧ _ ∧ _ ∧ _ ∧ _ ∧ _) ∧ Below w.heap.size w _).2.size; (with_reducible refine (ido _ (by assumption : (_ ∧ _ ∧ _ ∧ _ ∧ _ ∧ _ ∧ _ ∧ _ ∧ _ ∧ _ ∧ _ ∧ _) ∧ Below w.heap.size w _).2).mono ?_); rintro e w' ⟨b5, u5, hb5, rfl, O5, hb⟩; obtain ⟨c5, rfl⟩ : ∃ c, u5 = .slice (some ⟨b5, 0, none⟩) C.length c := (by obtain ⟨c, e, _⟩ := O5.shape; exact ⟨_, e⟩); have hz1 := lt_of_heap R0.out; have O5 := Lib.hid O5; replace R0 := Lib.hid (by first | exact bblk hb (lt_of_heap R0.out) R0.out | exact bblk_d hb (lt_of_heap R0.out) R0.out); obtain ⟨⟨y0, y1, y2, y3, y4, y5, y6, y7, y8⟩, ⟨g0, g1, g2, g3, g4, g5, g6, g7, g8⟩, hzl⟩ := nine_all R0.out))
  rename_i H5
  have D5 := Lib.hid (show (_ ∧ _ ∧ _ ∧ _ ∧ _ ∧ _ ∧ _ ∧ _ ∧ _ ∧ _ ∧ _ ∧ _) ∧ Below w.heap.size w _ from H5).2
  have hb5' : w.heap.size + 1 < b5 := by first | omega | (simp at hb5; omega)
  go_wp2_with fail
  refine bodyPost_ret (en_resPe _ _ _ _ _ _ _ _ _ _ _ _ _ rfl (put9_at _ _ _ _ _ _ _ _ _ R0.out)) rfl ⟨b5, _, by omega, rfl, O5.out.same (put9_other _ _ _ _ _ _ _ _ _ (by omega)), D5.out⟩
end Go.Proofs.YtdikcenhakfheaaGreatDoor

/- The program's propose: a proposal put into a book, and the log and the entry. -/
namespace Go.Proofs.YtdikcenhakfheaaGreatDoor
open Go.RowKit
set_option linter.unusedVariables false

theorem hi6_at {w : World} {b : Nat} {t : TypeId} {y0 y1 y2 y3 y4 y5 y6 y7 y8 y9 y10 y11 : Value} (x0 x1 x2 x3 x4 x5 : Value) (h : w.heap[b]? = some (.cells #[y0, y1, y2, y3, y4, y5, y6, y7, y8, y9, y10, y11] t (0, 0))) :
    (((((((w.setCell ⟨b, 6, none⟩ (x0)).setCell ⟨b, 7, none⟩ (x1)).setCell ⟨b, 8, none⟩ (x2)).setCell ⟨b, 9, none⟩ (x3)).setCell ⟨b, 10, none⟩ (x4)).setCell ⟨b, 11, none⟩ (x5))).heap[b]? = some (.cells #[y0, y1, y2, y3, y4, y5, x0, x1, x2, x3, x4, x5] t (0, 0)) := by
  have e := heap_setCell_same _ b 11 _ _ x5 (heap_setCell_same _ b 10 _ _ x4 (heap_setCell_same _ b 9 _ _ x3 (heap_setCell_same _ b 8 _ _ x2 (heap_setCell_same _ b 7 _ _ x1 (heap_setCell_same _ b 6 _ _ x0 (h))))))
  simp only [List.setIfInBounds_toArray, List.set_cons_zero, List.set_cons_succ] at e
  exact e
theorem hi6_below {w : World} {b B : Nat} (x0 x1 x2 x3 x4 x5 : Value) (h : B ≤ b) : Below B w (((((((w.setCell ⟨b, 6, none⟩ (x0)).setCell ⟨b, 7, none⟩ (x1)).setCell ⟨b, 8, none⟩ (x2)).setCell ⟨b, 9, none⟩ (x3)).setCell ⟨b, 10, none⟩ (x4)).setCell ⟨b, 11, none⟩ (x5))) :=
  (((((Below.refl B w).setCell (p := ⟨b, 6, none⟩) h x0).setCell (p := ⟨b, 7, none⟩) h x1).setCell (p := ⟨b, 8, none⟩) h x2).setCell (p := ⟨b, 9, none⟩) h x3).setCell (p := ⟨b, 10, none⟩) h x4 |>.setCell (p := ⟨b, 11, none⟩) h x5
theorem hi6_other {w : World} {b c : Nat} (x0 x1 x2 x3 x4 x5 : Value) (h : c ≠ b) : (((((((w.setCell ⟨b, 6, none⟩ (x0)).setCell ⟨b, 7, none⟩ (x1)).setCell ⟨b, 8, none⟩ (x2)).setCell ⟨b, 9, none⟩ (x3)).setCell ⟨b, 10, none⟩ (x4)).setCell ⟨b, 11, none⟩ (x5))).heap[c]? = w.heap[c]? := by
  rw [heap_setCell_other _ _ _ _ h, heap_setCell_other _ _ _ _ h, heap_setCell_other _ _ _ _ h, heap_setCell_other _ _ _ _ h, heap_setCell_other _ _ _ _ h, heap_setCell_other _ _ _ _ h]
theorem put9_exc {w : World} {b : Nat} (x0 x1 x2 x3 x4 x5 x6 x7 x8 : Value) : Exc (fun c => c = b) w ((((((((((w.setCell ⟨b, 0, none⟩ (x0)).setCell ⟨b, 1, none⟩ (x1)).setCell ⟨b, 2, none⟩ (x2)).setCell ⟨b, 3, none⟩ (x3)).setCell ⟨b, 4, none⟩ (x4)).setCell ⟨b, 5, none⟩ (x5)).setCell ⟨b, 6, none⟩ (x6)).setCell ⟨b, 7, none⟩ (x7)).setCell ⟨b, 8, none⟩ (x8))) :=
  ((((((((((Exc.refl (fun c => c = b) w).set (b := b) (.inl rfl) 0 x0).set (b := b) (.inl rfl) 1 x1).set (b := b) (.inl rfl) 2 x2).set (b := b) (.inl rfl) 3 x3).set (b := b) (.inl rfl) 4 x4).set (b := b) (.inl rfl) 5 x5).set (b := b) (.inl rfl) 6 x6).set (b := b) (.inl rfl) 7 x7).set (b := b) (.inl rfl) 8 x8)
theorem en_resPp (tm : Array Value) (w : World) (b : Nat) (l q : Value) (x0 x1 x2 x3 x4 x5 x6 x7 x8 : Value) (t : TypeId) (h1 : tm[4]? = some l) (h2 : tm[5]? = some (.pointer (some ⟨b, 0, none⟩))) (h3 : tm[6]? = some q) (h : w.heap[b]? = some (.cells #[x0, x1, x2, x3, x4, x5, x6, x7, x8] t (0, 0))) :
    (results Tryz.f39 tm).run Tryz.prog w = .ok (.tuple #[l, .agg #[x0, x1, x2, x3, x4, x5, x6, x7, x8], q]) w := by
  obtain ⟨t0, t1, t2, t3, t4, t5, t6, t7, t8⟩ := nine_cells h
  simp [results, Tryz.results39, go_sem, h1, h2, h3, t0, t1, t2, t3, t4, t5, t6, t7, t8]
section
variable {w w6 wc w' : World} {a : Pid} {bal k key v : Int} {eb : Nat} {Y : En} {ya : Option Addr} {yn yc : Nat}
theorem pps_keep (hb : Below wc.heap.size wc w') (h : (wc.cell? ⟨w.heap.size, 0, none⟩ = some (.int .i64 a.1) ∧ wc.cell? ⟨w.heap.size, 1, none⟩ = some (.int .i64 a.2) ∧ wc.cell? ⟨w.heap.size, 2, none⟩ = some (.int .i64 bal) ∧ wc.cell? ⟨w.heap.size, 3, none⟩ = some (.int .i64 k) ∧ wc.cell? ⟨w.heap.size, 4, none⟩ = some (.int .i64 key) ∧ wc.cell? ⟨w.heap.size, 5, none⟩ = some (.int .i64 v)) ∧ Below w.heap.size w wc) : (w'.cell? ⟨w.heap.size, 0, none⟩ = some (.int .i64 a.1) ∧ w'.cell? ⟨w.heap.size, 1, none⟩ = some (.int .i64 a.2) ∧ w'.cell? ⟨w.heap.size, 2, none⟩ = some (.int .i64 bal) ∧ w'.cell? ⟨w.heap.size, 3, none⟩ = some (.int .i64 k) ∧ w'.cell? ⟨w.heap.size, 4, none⟩ = some (.int .i64 key) ∧ w'.cell? ⟨w.heap.size, 5, none⟩ = some (.int .i64 v)) ∧ Below w.heap.size w w' := ⟨⟨cell_later hb h.1.1, cell_later hb h.1.2.1, cell_later hb h.1.2.2.1, cell_later hb h.1.2.2.2.1, cell_later hb h.1.2.2.2.2.1, cell_later hb h.1.2.2.2.2.2⟩, h.2.trans (hb.mono h.2.size)⟩
theorem pps_drew (h : (wc.cell? ⟨w.heap.size, 0, none⟩ = some (.int .i64 a.1) ∧ wc.cell? ⟨w.heap.size, 1, none⟩ = some (.int .i64 a.2) ∧ wc.cell? ⟨w.heap.size, 2, none⟩ = some (.int .i64 bal) ∧ wc.cell? ⟨w.heap.size, 3, none⟩ = some (.int .i64 k) ∧ wc.cell? ⟨w.heap.size, 4, none⟩ = some (.int .i64 key) ∧ wc.cell? ⟨w.heap.size, 5, none⟩ = some (.int .i64 v)) ∧ Below w.heap.size w wc) : (wc.drew.cell? ⟨w.heap.size, 0, none⟩ = some (.int .i64 a.1) ∧ wc.drew.cell? ⟨w.heap.size, 1, none⟩ = some (.int .i64 a.2) ∧ wc.drew.cell? ⟨w.heap.size, 2, none⟩ = some (.int .i64 bal) ∧ wc.drew.cell? ⟨w.heap.size, 3, none⟩ = some (.int .i64 k) ∧ wc.drew.cell? ⟨w.heap.size, 4, none⟩ = some (.int .i64 key) ∧ wc.drew.cell? ⟨w.heap.size, 5, none⟩ = some (.int .i64 v)) ∧ Below w.heap.size w wc.drew := ⟨h.1, h.2.drew⟩
theorem pps_store {y6 y7 y8 y9 y10 y11 x0 x1 x2 x3 x4 x5 : Value} {t : TypeId} (hP : wc.heap[w.heap.size]? = some (.cells #[.int .i64 a.1, .int .i64 a.2, .int .i64 bal, .int .i64 k, .int .i64 key, .int .i64 v, y6, y7, y8, y9, y10, y11] t (0, 0))) (h : (wc.cell? ⟨w.heap.size, 0, none⟩ = some (.int .i64 a.1) ∧ wc.cell? ⟨w.heap.size, 1, none⟩ = some (.int .i64 a.2) ∧ wc.cell? ⟨w.heap.size, 2, none⟩ = some (.int .i64 bal) ∧ wc.cell? ⟨w.heap.size, 3, none⟩ = some (.int .i64 k) ∧ wc.cell? ⟨w.heap.size, 4, none⟩ = some (.int .i64 key) ∧ wc.cell? ⟨w.heap.size, 5, none⟩ = some (.int .i64 v)) ∧ Below w.heap.size w wc) : (((((((wc.setCell ⟨w.heap.size, 6, none⟩ (x0)).setCell ⟨w.heap.size, 7, none⟩ (x1)).setCell ⟨w.heap.size, 8, none⟩ (x2)).setCell ⟨w.heap.size, 9, none⟩ (x3)).setCell ⟨w.heap.size, 10, none⟩ (x4)).setCell ⟨w.heap.size, 11, none⟩ (x5)).cell? ⟨w.heap.size, 0, none⟩ = some (.int .i64 a.1) ∧ ((((((wc.setCell ⟨w.heap.size, 6, none⟩ (x0)).setCell ⟨w.heap.size, 7, none⟩ (x1)).setCell ⟨w.heap.size, 8, none⟩ (x2)).setCell ⟨w.heap.size, 9, none⟩ (x3)).setCell ⟨w.heap.size, 10, none⟩ (x4)).setCell ⟨w.heap.size, 11, none⟩ (x5)).cell? ⟨w.heap.size, 1, none⟩ = some (.int .i64 a.2) ∧ ((((((wc.setCell ⟨w.heap.size, 6, none⟩ (x0)).setCell ⟨w.heap.size, 7, none⟩ (x1)).setCell ⟨w.heap.size, 8, none⟩ (x2)).setCell ⟨w.heap.size, 9, none⟩ (x3)).setCell ⟨w.heap.size, 10, none⟩ (x4)).setCell ⟨w.heap.size, 11, none⟩ (x5)).cell? ⟨w.heap.size, 2, none⟩ = some (.int .i64 bal) ∧ ((((((wc.setCell ⟨w.heap.size, 6, none⟩ (x0)).setCell ⟨w.heap.size, 7, none⟩ (x1)).setCell ⟨w.heap.size, 8, none⟩ (x2)).setCell ⟨w.heap.size, 9, none⟩ (x3)).setCell ⟨w.heap.size, 10, none⟩ (x4)).setCell ⟨w.heap.size, 11, none⟩ (x5)).cell? ⟨w.heap.size, 3, none⟩ = some (.int .i64 k) ∧ ((((((wc.setCell ⟨w.heap.size, 6, none⟩ (x0)).setCell ⟨w.heap.size, 7, none⟩ (x1)).setCell ⟨w.heap.size, 8, none⟩ (x2)).setCell ⟨w.heap.size, 9, none⟩ (x3)).setCell ⟨w.heap.size, 10, none⟩ (x4)).setCell ⟨w.heap.size, 11, none⟩ (x5)).cell? ⟨w.heap.size, 4, none⟩ = some (.int .i64 key) ∧ ((((((wc.setCell ⟨w.heap.size, 6, none⟩ (x0)).setCell ⟨w.heap.size, 7, none⟩ (x1)).setCell ⟨w.heap.size, 8, none⟩ (x2)).setCell ⟨w.heap.size, 9, none⟩ (x3)).setCell ⟨w.heap.size, 10, none⟩ (x4)).setCell ⟨w.heap.size, 11, none⟩ (x5)).cell? ⟨w.heap.size, 5, none⟩ = some (.int .i64 v)) ∧ Below w.heap.size w ((((((wc.setCell ⟨w.heap.size, 6, none⟩ (x0)).setCell ⟨w.heap.size, 7, none⟩ (x1)).setCell ⟨w.heap.size, 8, none⟩ (x2)).setCell ⟨w.heap.size, 9, none⟩ (x3)).setCell ⟨w.heap.size, 10, none⟩ (x4)).setCell ⟨w.heap.size, 11, none⟩ (x5)) := by
  obtain ⟨⟨c0, c1, c2, c3, c4, c5, _⟩, _, _⟩ := all12 (hi6_at x0 x1 x2 x3 x4 x5 hP)
  exact ⟨⟨c0, c1, c2, c3, c4, c5⟩, h.2.trans (hi6_below _ _ _ _ _ _ (Nat.le_refl _))⟩
theorem pp8_keep (hs : w.heap.size ≤ w6.heap.size) (hb : Below wc.heap.size wc w') (h : (wc.cell? ⟨eb, 0, none⟩ = some (.int .i64 Y.id.1) ∧ wc.cell? ⟨eb, 1, none⟩ = some (.int .i64 Y.id.2) ∧ wc.cell? ⟨eb, 2, none⟩ = some (.int .i64 Y.bal) ∧ wc.cell? ⟨eb, 3, none⟩ = some (.int .i64 Y.st) ∧ wc.cell? ⟨eb, 4, none⟩ = some (.int .i64 Y.k) ∧ wc.cell? ⟨eb, 5, none⟩ = some (.int .i64 Y.key) ∧ wc.cell? ⟨eb, 6, none⟩ = some (.int .i64 Y.v) ∧ wc.cell? ⟨eb, 7, none⟩ = some (.int .i64 Y.seq) ∧ wc.cell? ⟨eb, 8, none⟩ = some (.slice ya yn yc)) ∧ Below w.heap.size w6 wc) : (w'.cell? ⟨eb, 0, none⟩ = some (.int .i64 Y.id.1) ∧ w'.cell? ⟨eb, 1, none⟩ = some (.int .i64 Y.id.2) ∧ w'.cell? ⟨eb, 2, none⟩ = some (.int .i64 Y.bal) ∧ w'.cell? ⟨eb, 3, none⟩ = some (.int .i64 Y.st) ∧ w'.cell? ⟨eb, 4, none⟩ = some (.int .i64 Y.k) ∧ w'.cell? ⟨eb, 5, none⟩ = some (.int .i64 Y.key) ∧ w'.cell? ⟨eb, 6, none⟩ = some (.int .i64 Y.v) ∧ w'.cell? ⟨eb, 7, none⟩ = some (.int .i64 Y.seq) ∧ w'.cell? ⟨eb, 8, none⟩ = some (.slice ya yn yc)) ∧ Below w.heap.size w6 w' := ⟨⟨cell_later hb h.1.1, cell_later hb h.1.2.1, cell_later hb h.1.2.2.1, cell_later hb h.1.2.2.2.1, cell_later hb h.1.2.2.2.2.1, cell_later hb h.1.2.2.2.2.2.1, cell_later hb h.1.2.2.2.2.2.2.1, cell_later hb h.1.2.2.2.2.2.2.2.1, cell_later hb h.1.2.2.2.2.2.2.2.2⟩, h.2.trans (hb.mono (by have := h.2.size; omega))⟩
theorem pp8_drew (h : (wc.cell? ⟨eb, 0, none⟩ = some (.int .i64 Y.id.1) ∧ wc.cell? ⟨eb, 1, none⟩ = some (.int .i64 Y.id.2) ∧ wc.cell? ⟨eb, 2, none⟩ = some (.int .i64 Y.bal) ∧ wc.cell? ⟨eb, 3, none⟩ = some (.int .i64 Y.st) ∧ wc.cell? ⟨eb, 4, none⟩ = some (.int .i64 Y.k) ∧ wc.cell? ⟨eb, 5, none⟩ = some (.int .i64 Y.key) ∧ wc.cell? ⟨eb, 6, none⟩ = some (.int .i64 Y.v) ∧ wc.cell? ⟨eb, 7, none⟩ = some (.int .i64 Y.seq) ∧ wc.cell? ⟨eb, 8, none⟩ = some (.slice ya yn yc)) ∧ Below w.heap.size w6 wc) : (wc.drew.cell? ⟨eb, 0, none⟩ = some (.int .i64 Y.id.1) ∧ wc.drew.cell? ⟨eb, 1, none⟩ = some (.int .i64 Y.id.2) ∧ wc.drew.cell? ⟨eb, 2, none⟩ = some (.int .i64 Y.bal) ∧ wc.drew.cell? ⟨eb, 3, none⟩ = some (.int .i64 Y.st) ∧ wc.drew.cell? ⟨eb, 4, none⟩ = some (.int .i64 Y.k) ∧ wc.drew.cell? ⟨eb, 5, none⟩ = some (.int .i64 Y.key) ∧ wc.drew.cell? ⟨eb, 6, none⟩ = some (.int .i64 Y.v) ∧ wc.drew.cell? ⟨eb, 7, none⟩ = some (.int .i64 Y.seq) ∧ wc.drew.cell? ⟨eb, 8, none⟩ = some (.slice ya yn yc)) ∧ Below w.heap.size w6 wc.drew := ⟨h.1, h.2.drew⟩
theorem pp8_set {c i : Nat} {u : Value} (hc : w.heap.size ≤ c) (he : eb ≠ c) (h : (wc.cell? ⟨eb, 0, none⟩ = some (.int .i64 Y.id.1) ∧ wc.cell? ⟨eb, 1, none⟩ = some (.int .i64 Y.id.2) ∧ wc.cell? ⟨eb, 2, none⟩ = some (.int .i64 Y.bal) ∧ wc.cell? ⟨eb, 3, none⟩ = some (.int .i64 Y.st) ∧ wc.cell? ⟨eb, 4, none⟩ = some (.int .i64 Y.k) ∧ wc.cell? ⟨eb, 5, none⟩ = some (.int .i64 Y.key) ∧ wc.cell? ⟨eb, 6, none⟩ = some (.int .i64 Y.v) ∧ wc.cell? ⟨eb, 7, none⟩ = some (.int .i64 Y.seq) ∧ wc.cell? ⟨eb, 8, none⟩ = some (.slice ya yn yc)) ∧ Below w.heap.size w6 wc) : ((wc.setCell ⟨c, i, none⟩ u).cell? ⟨eb, 0, none⟩ = some (.int .i64 Y.id.1) ∧ (wc.setCell ⟨c, i, none⟩ u).cell? ⟨eb, 1, none⟩ = some (.int .i64 Y.id.2) ∧ (wc.setCell ⟨c, i, none⟩ u).cell? ⟨eb, 2, none⟩ = some (.int .i64 Y.bal) ∧ (wc.setCell ⟨c, i, none⟩ u).cell? ⟨eb, 3, none⟩ = some (.int .i64 Y.st) ∧ (wc.setCell ⟨c, i, none⟩ u).cell? ⟨eb, 4, none⟩ = some (.int .i64 Y.k) ∧ (wc.setCell ⟨c, i, none⟩ u).cell? ⟨eb, 5, none⟩ = some (.int .i64 Y.key) ∧ (wc.setCell ⟨c, i, none⟩ u).cell? ⟨eb, 6, none⟩ = some (.int .i64 Y.v) ∧ (wc.setCell ⟨c, i, none⟩ u).cell? ⟨eb, 7, none⟩ = some (.int .i64 Y.seq) ∧ (wc.setCell ⟨c, i, none⟩ u).cell? ⟨eb, 8, none⟩ = some (.slice ya yn yc)) ∧ Below w.heap.size w6 (wc.setCell ⟨c, i, none⟩ u) := ⟨⟨cell_set u he h.1.1, cell_set u he h.1.2.1, cell_set u he h.1.2.2.1, cell_set u he h.1.2.2.2.1, cell_set u he h.1.2.2.2.2.1, cell_set u he h.1.2.2.2.2.2.1, cell_set u he h.1.2.2.2.2.2.2.1, cell_set u he h.1.2.2.2.2.2.2.2.1, cell_set u he h.1.2.2.2.2.2.2.2.2⟩, h.2.setCell (p := ⟨c, i, none⟩) hc u⟩
end
theorem drew_heap {w : World} {b : Nat} {o : Obj} (h : w.heap[b]? = some o) : w.drew.heap[b]? = some o := h
/-- What propose leaves. -/
def PpP (bb : Nat) (Q : List En × En × Bool) (w : World) (e : Ending) (w' : World) : Prop :=
  ∃ v u S, e = .returned (.tuple #[v, env Q.2.1 u, .bool Q.2.2]) ∧ w.heap.size ≤ S ∧ S ≤ w'.heap.size ∧ OwZ w' w.heap.size S u Q.2.1.deps ∧ LogO w' S w'.heap.size v Q.1 ∧ Keep w.heap.size bb w w'
theorem pp_fail {w W : World} {rb bb : Nat} {t : TypeId} {y0 y1 y2 y3 y4 y5 y6 y7 y8 : Value} (D : Keep w.heap.size bb w W) (hr : w.heap.size ≤ rb) (hR : W.heap[rb]? = some (.cells #[y0, y1, y2, y3, y4, y5, y6, y7, y8] t (0, 0))) :
    PpP bb ([], en0, false) w (.returned (.tuple #[.slice (some ⟨W.heap.size, 0, none⟩) 0 0, .agg #[.int .i64 0, .int .i64 0, .int .i64 0, .int .i64 0, .int .i64 0, .int .i64 0, .int .i64 0, .int .i64 0, .slice none 0 0], .bool false])) (((((((((((W.setCell ⟨rb, 0, none⟩ (.int .i64 0)).setCell ⟨rb, 1, none⟩ (.int .i64 0)).setCell ⟨rb, 2, none⟩ (.int .i64 0)).setCell ⟨rb, 3, none⟩ (.int .i64 0)).setCell ⟨rb, 4, none⟩ (.int .i64 0)).setCell ⟨rb, 5, none⟩ (.int .i64 0)).setCell ⟨rb, 6, none⟩ (.int .i64 0)).setCell ⟨rb, 7, none⟩ (.int .i64 0)).setCell ⟨rb, 8, none⟩ (.slice none 0 0))).alloc (.cells #[] 30)) ∧ (((((((((((W.setCell ⟨rb, 0, none⟩ (.int .i64 0)).setCell ⟨rb, 1, none⟩ (.int .i64 0)).setCell ⟨rb, 2, none⟩ (.int .i64 0)).setCell ⟨rb, 3, none⟩ (.int .i64 0)).setCell ⟨rb, 4, none⟩ (.int .i64 0)).setCell ⟨rb, 5, none⟩ (.int .i64 0)).setCell ⟨rb, 6, none⟩ (.int .i64 0)).setCell ⟨rb, 7, none⟩ (.int .i64 0)).setCell ⟨rb, 8, none⟩ (.slice none 0 0))).alloc (.cells #[] 30)).heap[rb]? = some (.cells #[.int .i64 0, .int .i64 0, .int .i64 0, .int .i64 0, .int .i64 0, .int .i64 0, .int .i64 0, .int .i64 0, .slice none 0 0] t (0, 0)) := by
  have hl := lt_of_heap hR
  have X := put9_exc (w := W) (b := rb) (.int .i64 0) (.int .i64 0) (.int .i64 0) (.int .i64 0) (.int .i64 0) (.int .i64 0) (.int .i64 0) (.int .i64 0) (.slice none 0 0)
  have hR9 := put9_at (.int .i64 0) (.int .i64 0) (.int .i64 0) (.int .i64 0) (.int .i64 0) (.int .i64 0) (.int .i64 0) (.int .i64 0) (.slice none 0 0) hR
  have hz : ((((((((((W.setCell ⟨rb, 0, none⟩ (.int .i64 0)).setCell ⟨rb, 1, none⟩ (.int .i64 0)).setCell ⟨rb, 2, none⟩ (.int .i64 0)).setCell ⟨rb, 3, none⟩ (.int .i64 0)).setCell ⟨rb, 4, none⟩ (.int .i64 0)).setCell ⟨rb, 5, none⟩ (.int .i64 0)).setCell ⟨rb, 6, none⟩ (.int .i64 0)).setCell ⟨rb, 7, none⟩ (.int .i64 0)).setCell ⟨rb, 8, none⟩ (.slice none 0 0))).heap.size = W.heap.size := by simp only [World.size_setCell]
  generalize (((((((((W.setCell ⟨rb, 0, none⟩ (.int .i64 0)).setCell ⟨rb, 1, none⟩ (.int .i64 0)).setCell ⟨rb, 2, none⟩ (.int .i64 0)).setCell ⟨rb, 3, none⟩ (.int .i64 0)).setCell ⟨rb, 4, none⟩ (.int .i64 0)).setCell ⟨rb, 5, none⟩ (.int .i64 0)).setCell ⟨rb, 6, none⟩ (.int .i64 0)).setCell ⟨rb, 7, none⟩ (.int .i64 0)).setCell ⟨rb, 8, none⟩ (.slice none 0 0)) = W9 at X hR9 hz ⊢
  have L := LogO.none W9 W.heap.size (by rw [hz]; exact Nat.le_refl _)
  rw [hz] at L
  have hs := D.size
  refine ⟨⟨_, .slice none 0 0, W.heap.size, rfl, D.size, by simp; omega, .inl ⟨rfl, none, 0, rfl⟩, L.wide (Nat.le_refl _) (by simp; omega) (Nat.le_refl _), ?_⟩, (Below.heap_alloc _ _ _ (by omega)).trans hR9⟩
  exact (D.trans (Keep.of_below (X.to (by omega) (fun b e => by omega)))).alloc (by omega) _

set_option maxRecDepth 100000 in
set_option maxHeartbeats 8000000 in
theorem ipropose_any (bb : Nat) (E : List En) (U : Nat → Value) (a : Pid) (bal k key v r ek eky : Int) (g : Nat → Nat) (w : World) (hv : logB E = true) (hcv : ∀ k1 key1 v1, cvB k1 key1 v1 = true → clB k1 key1 v1 k key v = kcB k1 key1 ek eky) (h : Book w bb E.length (mapE E U E.length)) (hU : ∀ k, k < E.length → Ids w (U k) (E.getD k en0).deps) (hg : ∀ r, g r < 2251799813685248) (hT : TabIn w) :
    Calls Tryz.prog 39 #[.map (some bb), prV a bal k key v r g] w (PpP bb (PpR E ⟨a, bal, 1, k, key, v, max r (topE (clsE E a ek eky) + 1), idsO (joinF g (mask (idsE (clsE E a ek eky))))⟩) w) := by
  have hbb := h.lt
  have hUs : ∀ k, k < E.length → ∃ a n c, U k = .slice a n c := fun k hk => by obtain ⟨a, c, e, _⟩ := hU k hk; exact ⟨a, _, c, e⟩
  have ia := fun W (hb : Below w.heap.size w W) => iattrs_book bb E U a.1 a.2 k key v ek eky W hv hcv (h.up hb hbb) hUs
  have hml := mask_lt (cls_ok hv a ek eky)
  obtain ⟨t, ht⟩ : ∃ t, Hid (topE (clsE E a ek eky) + 1 = t) := ⟨_, Lib.hid rfl⟩
  obtain ⟨f, hf⟩ : ∃ t, Hid (mask (idsE (clsE E a ek eky)) = t) := ⟨_, Lib.hid rfl⟩
  have ia : ∀ W, Below w.heap.size w W → Calls Tryz.prog 74 #[.map (some bb), .agg #[.int .i64 a.1, .int .i64 a.2], .agg #[.int .i64 k, .int .i64 key, .int .i64 v]] W fun e w' => e = .returned (atV t f) ∧ Below W.heap.size W w' := fun W hb => by have := ia W hb; rw [show ((a.1, a.2) : Pid) = a from rfl, ht.out, hf.out] at this; exact this
  rw [hf.out] at hml
  rw [ht.out, hf.out]
  have ja := fun W => ijoinA_any r t g f W hg hml
  obtain ⟨m, hm⟩ : ∃ m, Hid (joinF g f = m) := ⟨_, Lib.hid rfl⟩
  have hjl : ∀ i, m i < 2251799813685248 := fun i => by rw [← hm.out]; exact Nat.or_lt_two_pow (n := 51) (hg i) (hml i)
  rw [hm.out] at ja ⊢
  obtain ⟨s, hs⟩ : ∃ m, Hid (max r t = m) := ⟨_, Lib.hid rfl⟩
  rw [hs.out] at ja ⊢
  have pe := fun W (hb : Below w.heap.size w W) => ientryP_any a bal k key v s m W hjl (TabIn.up hT hb (Nat.le_refl _))
  obtain ⟨Y, hY⟩ : ∃ Y : En, Hid (Y = ⟨a, bal, 1, k, key, v, s, idsO m⟩) := ⟨_, Lib.hid rfl⟩
  have pe : ∀ W, Below w.heap.size w W → Calls Tryz.prog 75 #[prV a bal k key v s m] W fun e w' => ∃ b u, W.heap.size ≤ b ∧ e = .returned (env Y u) ∧ OwnP w' b u Y.deps ∧ Below W.heap.size W w' := fun W hb => by have := pe W hb; rw [← hY.out, show idsO m = Y.deps by rw [hY.out]] at this; exact this
  rw [← hY.out]
  have nv := fun u W (H : Ids W u Y.deps) => ievalid_any Y u W H
  have hUU := Lib.hid (fun W (hb : Below w.heap.size w W) k (hk : k < E.length) => (hU k hk).up hb (Nat.le_refl _))
  have hBk := Lib.hid (fun W (hb : Below w.heap.size w W) => h.up hb hbb)
  have hv := Lib.hid hv
  clear h hU hUs hg hml hT hcv hjl
  unfold prV at pe ⊢
  unfold atV at ia ja
  have A0 := (Below.heap_alloc _ (.cells #[.int .i64 0, .int .i64 0, .int .i64 0, .int .i64 0, .int .i64 0, .int .i64 0, .int .i64 0, .int .i64 0, .slice none 0 0] 30) _ (by simp)).trans (heap_alloc_new w (.cells #[.int .i64 a.1, .int .i64 a.2, .int .i64 bal, .int .i64 k, .int .i64 key, .int .i64 v, .int .i64 r, .int .u64 (g 0), .int .u64 (g 1), .int .u64 (g 2), .int .u64 (g 3), .int .u64 (g 4)] 78))
  have R0 := Lib.hid (heap_alloc_at (w.alloc (.cells #[.int .i64 a.1, .int .i64 a.2, .int .i64 bal, .int .i64 k, .int .i64 key, .int .i64 v, .int .i64 r, .int .u64 (g 0), .int .u64 (g 1), .int .u64 (g 2), .int .u64 (g 3), .int .u64 (g 4)] 78)) (.cells #[.int .i64 0, .int .i64 0, .int .i64 0, .int .i64 0, .int .i64 0, .int .i64 0, .int .i64 0, .int .i64 0, .slice none 0 0] 30) (w.heap.size + 1) (by simp))
  have D0 := ((Below.refl w.heap.size w).alloc (Nat.le_refl _) (.cells #[.int .i64 a.1, .int .i64 a.2, .int .i64 bal, .int .i64 k, .int .i64 key, .int .i64 v, .int .i64 r, .int .u64 (g 0), .int .u64 (g 1), .int .u64 (g 2), .int .u64 (g 3), .int .u64 (g 4)] 78)).alloc (by simp) (.cells #[.int .i64 0, .int .i64 0, .int .i64 0, .int .i64 0, .int .i64 0, .int .i64 0, .int .i64 0, .int .i64 0, .slice none 0 0] 30)
  have hP := Lib.hid A0
  have H0 := Lib.hid (show (((w.alloc (.cells #[.int .i64 a.1, .int .i64 a.2, .int .i64 bal, .int .i64 k, .int .i64 key, .int .i64 v, .int .i64 r, .int .u64 (g 0), .int .u64 (g 1), .int .u64 (g 2), .int .u64 (g 3), .int .u64 (g 4)] 78)).alloc (.cells #[.int .i64 0, .int .i64 0, .int .i64 0, .int .i64 0, .int .i64 0, .int .i64 0, .int .i64 0, .int .i64 0, .slice none 0 0] 30)).cell? ⟨w.heap.size, 0, none⟩ = some (.int .i64 a.1) ∧ ((w.alloc (.cells #[.int .i64 a.1, .int .i64 a.2, .int .i64 bal, .int .i64 k, .int .i64 key, .int .i64 v, .int .i64 r, .int .u64 (g 0), .int .u64 (g 1), .int .u64 (g 2), .int .u64 (g 3), .int .u64 (g 4)] 78)).alloc (.cells #[.int .i64 0, .int .i64 0, .int .i64 0, .int .i64 0, .int .i64 0, .int .i64 0, .int .i64 0, .int .i64 0, .slice none 0 0] 30)).cell? ⟨w.heap.size, 1, none⟩ = some (.int .i64 a.2) ∧ ((w.alloc (.cells #[.int .i64 a.1, .int .i64 a.2, .int .i64 bal, .int .i64 k, .int .i64 key, .int .i64 v, .int .i64 r, .int .u64 (g 0), .int .u64 (g 1), .int .u64 (g 2), .int .u64 (g 3), .int .u64 (g 4)] 78)).alloc (.cells #[.int .i64 0, .int .i64 0, .int .i64 0, .int .i64 0, .int .i64 0, .int .i64 0, .int .i64 0, .int .i64 0, .slice none 0 0] 30)).cell? ⟨w.heap.size, 2, none⟩ = some (.int .i64 bal) ∧ ((w.alloc (.cells #[.int .i64 a.1, .int .i64 a.2, .int .i64 bal, .int .i64 k, .int .i64 key, .int .i64 v, .int .i64 r, .int .u64 (g 0), .int .u64 (g 1), .int .u64 (g 2), .int .u64 (g 3), .int .u64 (g 4)] 78)).alloc (.cells #[.int .i64 0, .int .i64 0, .int .i64 0, .int .i64 0, .int .i64 0, .int .i64 0, .int .i64 0, .int .i64 0, .slice none 0 0] 30)).cell? ⟨w.heap.size, 3, none⟩ = some (.int .i64 k) ∧ ((w.alloc (.cells #[.int .i64 a.1, .int .i64 a.2, .int .i64 bal, .int .i64 k, .int .i64 key, .int .i64 v, .int .i64 r, .int .u64 (g 0), .int .u64 (g 1), .int .u64 (g 2), .int .u64 (g 3), .int .u64 (g 4)] 78)).alloc (.cells #[.int .i64 0, .int .i64 0, .int .i64 0, .int .i64 0, .int .i64 0, .int .i64 0, .int .i64 0, .int .i64 0, .slice none 0 0] 30)).cell? ⟨w.heap.size, 4, none⟩ = some (.int .i64 key) ∧ ((w.alloc (.cells #[.int .i64 a.1, .int .i64 a.2, .int .i64 bal, .int .i64 k, .int .i64 key, .int .i64 v, .int .i64 r, .int .u64 (g 0), .int .u64 (g 1), .int .u64 (g 2), .int .u64 (g 3), .int .u64 (g 4)] 78)).alloc (.cells #[.int .i64 0, .int .i64 0, .int .i64 0, .int .i64 0, .int .i64 0, .int .i64 0, .int .i64 0, .int .i64 0, .slice none 0 0] 30)).cell? ⟨w.heap.size, 5, none⟩ = some (.int .i64 v)) ∧ Below w.heap.size w ((w.alloc (.cells #[.int .i64 a.1, .int .i64 a.2, .int .i64 bal, .int .i64 k, .int .i64 key, .int .i64 v, .int .i64 r, .int .u64 (g 0), .int .u64 (g 1), .int .u64 (g 2), .int .u64 (g 3), .int .u64 (g 4)] 78)).alloc (.cells #[.int .i64 0, .int .i64 0, .int .i64 0, .int .i64 0, .int .i64 0, .int .i64 0, .int .i64 0, .int .i64 0, .slice none 0 0] 30)) from ⟨by obtain ⟨⟨c0, c1, c2, c3, c4, c5, _⟩, _, _⟩ := all12 A0; exact ⟨c0, c1, c2, c3, c4, c5⟩, D0⟩)
  clear A0 D0
  go_enter Tryz.func39, Tryz.ntmps39
  go_upto_region 1 with fail
  generalize ((w.alloc (.cells #[.int .i64 a.1, .int .i64 a.2, .int .i64 bal, .int .i64 k, .int .i64 key, .int .i64 v, .int .i64 r, .int .u64 (g 0), .int .u64 (g 1), .int .u64 (g 2), .int .u64 (g 3), .int .u64 (g 4)] 78)).alloc (.cells #[.int .i64 0, .int .i64 0, .int .i64 0, .int .i64 0, .int .i64 0, .int .i64 0, .int .i64 0, .int .i64 0, .slice none 0 0] 30)) = w1 at R0 hP H0 ⊢
  go_cut [19] from 10 to 18 (fun s17 wx => Hid (wx.heap[w.heap.size]? = some (.cells #[.int .i64 a.1, .int .i64 a.2, .int .i64 bal, .int .i64 k, .int .i64 key, .int .i64 v, .int .i64 s, .int .u64 (m 0), .int .u64 (m 1), .int .u64 (m 2), .int .u64 (m 3), .int .u64 (m 4)] 78 (0, 0)) ∧ wx.heap[w.heap.size + 1]? = some (.cells #[.int .i64 0, .int .i64 0, .int .i64 0, .int .i64 0, .int .i64 0, .int .i64 0, .int .i64 0, .int .i64 0, .slice none 0 0] 30 (0, 0)) ∧ Below w.heap.size w wx))
  case first =>
    go_upto_region 1 with fail
    refine wp_region_held_drew (S := fun w' => w'.cell? ⟨w.heap.size, 0, none⟩ = some (.int .i64 a.1) ∧ w'.cell? ⟨w.heap.size, 1, none⟩ = some (.int .i64 a.2) ∧ w'.cell? ⟨w.heap.size, 2, none⟩ = some (.int .i64 bal) ∧ w'.cell? ⟨w.heap.size, 3, none⟩ = some (.int .i64 k) ∧ w'.cell? ⟨w.heap.size, 4, none⟩ = some (.int .i64 key) ∧ w'.cell? ⟨w.heap.size, 5, none⟩ = some (.int .i64 v) ∧ Below w.heap.size w w') (by kernel_rfl) ⟨H0.out.1.1, H0.out.1.2.1, H0.out.1.2.2.1, H0.out.1.2.2.2.1, H0.out.1.2.2.2.2.1, H0.out.1.2.2.2.2.2, H0.out.2.drew⟩ (fun hHeld => ?_)
    refine wpAnyH_take (i := 0) (oi := ⟨some 10, _, _, _, _, _⟩) (v := ?_) rfl (by kernel_rfl) (by kernel_rfl) (by kernel_rfl) (fun _ _ _ h => h) (Or.inl ⟨by rfl, ?_⟩) (by assumption) ?_
    rotate_left 1
    · intro w hSw; (try dsimp only at hSw); go_simp; try (with_reducible rfl)
    try simp only [Act.put, List.setIfInBounds_toArray, List.set_cons_zero, List.set_cons_succ]
    refine wpAnyH_take (i := 2) (oi := ⟨some 12, _, _, _, _, _⟩) (v := ?_) rfl (by kernel_rfl) (by kernel_rfl) (by kernel_rfl) (fun _ _ _ h => h) (Or.inl ⟨by rfl, ?_⟩) (by assumption) ?_
    rotate_left 1
    · intro w hSw; (try dsimp only at hSw); go_simp; try (with_reducible rfl)
    try simp only [Act.put, List.setIfInBounds_toArray, List.set_cons_zero, List.set_cons_succ]
    refine wpAnyH_take (i := 3) (oi := ⟨some 13, _, _, _, _, _⟩) (v := ?_) rfl (by kernel_rfl) (by kernel_rfl) (by kernel_rfl) (fun _ _ _ h => h) (Or.inl ⟨by rfl, ?_⟩) (by assumption) ?_
    rotate_left 1
    · intro w hSw; (try dsimp only at hSw); go_simp; try (with_reducible rfl)
    try simp only [Act.put, List.setIfInBounds_toArray, List.set_cons_zero, List.set_cons_succ]
    refine wpAnyH_take (i := 4) (oi := ⟨some 14, _, _, _, _, _⟩) (v := ?_) rfl (by kernel_rfl) (by kernel_rfl) (by kernel_rfl) (fun _ _ _ h => h) (Or.inl ⟨by rfl, ?_⟩) (by assumption) ?_
    rotate_left 1
    · intro w hSw; (try dsimp only at hSw); go_simp; try (with_reducible rfl)
    try simp only [Act.put, List.setIfInBounds_toArray, List.set_cons_zero, List.set_cons_succ]
    refine wpAnyH_take (i := 5) (oi := ⟨some 15, _, _, _, _, _⟩) (v := ?_) rfl (by kernel_rfl) (by kernel_rfl) (by kernel_rfl) (fun _ _ _ h => h) (Or.inl ⟨by rfl, ?_⟩) (by assumption) ?_
    rotate_left 1
    · intro w hSw; (try dsimp only at hSw); go_simp; try (with_reducible rfl)
    try simp only [Act.put, List.setIfInBounds_toArray, List.set_cons_zero, List.set_cons_succ]
    refine wpAnyH_take (i := 6) (oi := ⟨some 16, _, _, _, _, _⟩) (v := ?_) rfl (by kernel_rfl) (by kernel_rfl) (by kernel_rfl) (fun _ _ _ h => h) (Or.inl ⟨by rfl, ?_⟩) (by assumption) ?_
    rotate_left 1
    · intro w hSw; (try dsimp only at hSw); go_simp; try (with_reducible rfl)
    try simp only [Act.put, List.setIfInBounds_toArray, List.set_cons_zero, List.set_cons_succ]
    refine wpAnyH_ready (rs := [1, 7]) (by kernel_rfl) (by simp) ?_
    refine AllReadyH.cons (o := ⟨some 11, _, _, _, _, _⟩) rfl (fun K hK => ?_) ?_
    · obtain ⟨⟨c0, c1, c2, c3, c4, c5, c6, c7, c8, c9, c10, c11⟩, cf, cl⟩ := all12 hP.out
      have cf6 := cf 6
      have cf7 := cf 7
      have cf8 := cf 8
      have cf9 := cf 9
      have cf10 := cf 10
      have cf11 := cf 11
      clear cf
      go_simp
      refine hK.out _ _ ?_ (fun hHeld2 => ?_)
      · exact hHeld
      clear hK K hHeld
      have hHeld := hHeld2
      clear hHeld2
      try simp only [Act.put, List.setIfInBounds_toArray, List.set_cons_zero, List.set_cons_succ]
      refine wpAnyH_ready (rs := [7]) (by kernel_rfl) (by simp) ?_
      refine AllReadyH.cons (o := ⟨some 17, _, _, _, _, _⟩) rfl (fun K hK => ?_) AllReadyH.nil
      go_simp
      with_reducible refine (ia _ hHeld.2.2.2.2.2.2).mono ?_
      rintro e wa ⟨rfl, hb⟩
      go_wp2_with fail
      replace R0 := Lib.hid (by first | exact bblk hb (lt_of_heap R0.out) R0.out | exact bblk_d hb (lt_of_heap R0.out) R0.out)
      replace hP := Lib.hid (by first | exact bblk hb (lt_of_heap hP.out) hP.out | exact bblk_d hb (lt_of_heap hP.out) hP.out)
      refine hK.out _ _ ?_ (fun hHeld2 => ?_)
      · exact ⟨cell_later hb hHeld.1, cell_later hb hHeld.2.1, cell_later hb hHeld.2.2.1, cell_later hb hHeld.2.2.2.1, cell_later hb hHeld.2.2.2.2.1, cell_later hb hHeld.2.2.2.2.2.1, hHeld.2.2.2.2.2.2.trans (hb.mono hHeld.2.2.2.2.2.2.size)⟩
      clear hK K hHeld hb
      have hHeld := hHeld2
      clear hHeld2
      try simp only [Act.put, List.setIfInBounds_toArray, List.set_cons_zero, List.set_cons_succ]
      refine wpAnyH_ready (rs := [8]) (by kernel_rfl) (by simp) ?_
      refine AllReadyH.cons (o := ⟨some 18, _, _, _, _, _⟩) rfl (fun K hK => ?_) AllReadyH.nil
      go_simp
      with_reducible refine (ja _).mono ?_
      rintro e wj ⟨rfl, hb⟩
      go_wp2_with fail
      replace R0 := Lib.hid (by first | exact bblk hb (lt_of_heap R0.out) R0.out | exact bblk_d hb (lt_of_heap R0.out) R0.out)
      replace hP := Lib.hid (by first | exact bblk hb (lt_of_heap hP.out) hP.out | exact bblk_d hb (lt_of_heap hP.out) hP.out)
      refine hK.out _ _ ?_ (fun hHeld2 => ?_)
      · exact ⟨cell_later hb hHeld.1, cell_later hb hHeld.2.1, cell_later hb hHeld.2.2.1, cell_later hb hHeld.2.2.2.1, cell_later hb hHeld.2.2.2.2.1, cell_later hb hHeld.2.2.2.2.2.1, hHeld.2.2.2.2.2.2.trans (hb.mono hHeld.2.2.2.2.2.2.size)⟩
      clear hK K hHeld hb
      have hHeld := hHeld2
      clear hHeld2
      obtain ⟨⟨p0, p1, p2, p3, p4, p5, p6, p7, p8, p9, p10, p11⟩, pf, pl⟩ := all12 hP.out
      have pf6 := pf 6
      have pf7 := pf 7
      have pf8 := pf 8
      have pf9 := pf 9
      have pf10 := pf 10
      have pf11 := pf 11
      clear pf
      try simp only [Act.put, List.setIfInBounds_toArray, List.set_cons_zero, List.set_cons_succ]
      refine wpAnyH_take (i := 9) (oi := ⟨some 19, _, _, _, _, _⟩) (v := ?_) rfl (by kernel_rfl) (by kernel_rfl) (by kernel_rfl) (fun _ _ _ h => h) (Or.inl ⟨by rfl, ?_⟩) (by assumption) ?_
      rotate_left 1
      · intro w hSw; (try dsimp only at hSw); go_simp; try (with_reducible rfl)
      try simp only [Act.put, List.setIfInBounds_toArray, List.set_cons_zero, List.set_cons_succ]
      refine wpAnyH_ready (rs := [10]) (by kernel_rfl) (by simp) ?_
      refine AllReadyH.cons (o := ⟨none, _, _, _, _, _⟩) rfl (fun K hK => ?_) AllReadyH.nil
      go_simp
      have hP6 := Lib.hid (hi6_at (.int .i64 s) (.int .u64 (m 0)) (.int .u64 (m 1)) (.int .u64 (m 2)) (.int .u64 (m 3)) (.int .u64 (m 4)) hP.out)
      have hR6 := Lib.hid ((hi6_other (c := w.heap.size + 1) (b := w.heap.size) (.int .i64 s) (.int .u64 (m 0)) (.int .u64 (m 1)) (.int .u64 (m 2)) (.int .u64 (m 3)) (.int .u64 (m 4)) (by omega)).trans R0.out)
      have hD6 := Lib.hid (hHeld.2.2.2.2.2.2.trans (hi6_below (b := w.heap.size) (.int .i64 s) (.int .u64 (m 0)) (.int .u64 (m 1)) (.int .u64 (m 2)) (.int .u64 (m 3)) (.int .u64 (m 4)) (Nat.le_refl _)))
      refine hK.out _ _ ?_ (fun hHeld2 => ?_)
      · obtain ⟨⟨c0, c1, c2, c3, c4, c5, _⟩, _, _⟩ := all12 hP6.out
        exact ⟨c0, c1, c2, c3, c4, c5, hD6.out⟩
      clear hK K hHeld hHeld2
      try simp only [Act.put, List.setIfInBounds_toArray, List.set_cons_zero, List.set_cons_succ]
      refine wpAnyH_done (by kernel_rfl) ?_ _
      try simp only [Act.put, List.setIfInBounds_toArray, List.set_cons_zero, List.set_cons_succ]
      go_wp2_with fail
      go_meet
      exact Lib.hid ⟨hP6.out, hR6.out, hD6.out⟩
    refine AllReadyH.cons (o := ⟨some 17, _, _, _, _, _⟩) rfl (fun K hK => ?_) AllReadyH.nil
    go_simp
    with_reducible refine (ia _ hHeld.2.2.2.2.2.2).mono ?_
    rintro e wa ⟨rfl, hb⟩
    go_wp2_with fail
    replace R0 := Lib.hid (by first | exact bblk hb (lt_of_heap R0.out) R0.out | exact bblk_d hb (lt_of_heap R0.out) R0.out)
    replace hP := Lib.hid (by first | exact bblk hb (lt_of_heap hP.out) hP.out | exact bblk_d hb (lt_of_heap hP.out) hP.out)
    refine hK.out _ _ ?_ (fun hHeld2 => ?_)
    · exact ⟨cell_later hb hHeld.1, cell_later hb hHeld.2.1, cell_later hb hHeld.2.2.1, cell_later hb hHeld.2.2.2.1, cell_later hb hHeld.2.2.2.2.1, cell_later hb hHeld.2.2.2.2.2.1, hHeld.2.2.2.2.2.2.trans (hb.mono hHeld.2.2.2.2.2.2.size)⟩
    clear hK K hHeld hb
    have hHeld := hHeld2
    clear hHeld2
    obtain ⟨⟨d0, d1, d2, d3, d4, d5, d6, d7, d8, d9, d10, d11⟩, df, dl⟩ := all12 hP.out
    have df6 := df 6
    have df7 := df 7
    have df8 := df 8
    have df9 := df 9
    have df10 := df 10
    have df11 := df 11
    clear df
    try simp only [Act.put, List.setIfInBounds_toArray, List.set_cons_zero, List.set_cons_succ]
    refine wpAnyH_ready (rs := [1]) (by kernel_rfl) (by simp) ?_
    refine AllReadyH.cons (o := ⟨some 11, _, _, _, _, _⟩) rfl (fun K hK => ?_) AllReadyH.nil
    go_simp
    refine hK.out _ _ ?_ (fun hHeld2 => ?_)
    · exact hHeld
    clear hK K hHeld
    have hHeld := hHeld2
    clear hHeld2
    try simp only [Act.put, List.setIfInBounds_toArray, List.set_cons_zero, List.set_cons_succ]
    refine wpAnyH_ready (rs := [8]) (by kernel_rfl) (by simp) ?_
    refine AllReadyH.cons (o := ⟨some 18, _, _, _, _, _⟩) rfl (fun K hK => ?_) AllReadyH.nil
    go_simp
    with_reducible refine (ja _).mono ?_
    rintro e wj ⟨rfl, hb⟩
    go_wp2_with fail
    replace R0 := Lib.hid (by first | exact bblk hb (lt_of_heap R0.out) R0.out | exact bblk_d hb (lt_of_heap R0.out) R0.out)
    replace hP := Lib.hid (by first | exact bblk hb (lt_of_heap hP.out) hP.out | exact bblk_d hb (lt_of_heap hP.out) hP.out)
    refine hK.out _ _ ?_ (fun hHeld2 => ?_)
    · exact ⟨cell_later hb hHeld.1, cell_later hb hHeld.2.1, cell_later hb hHeld.2.2.1, cell_later hb hHeld.2.2.2.1, cell_later hb hHeld.2.2.2.2.1, cell_later hb hHeld.2.2.2.2.2.1, hHeld.2.2.2.2.2.2.trans (hb.mono hHeld.2.2.2.2.2.2.size)⟩
    clear hK K hHeld hb
    have hHeld := hHeld2
    clear hHeld2
    obtain ⟨⟨p0, p1, p2, p3, p4, p5, p6, p7, p8, p9, p10, p11⟩, pf, pl⟩ := all12 hP.out
    have pf6 := pf 6
    have pf7 := pf 7
    have pf8 := pf 8
    have pf9 := pf 9
    have pf10 := pf 10
    have pf11 := pf 11
    clear pf
    try simp only [Act.put, List.setIfInBounds_toArray, List.set_cons_zero, List.set_cons_succ]
    refine wpAnyH_take (i := 9) (oi := ⟨some 19, _, _, _, _, _⟩) (v := ?_) rfl (by kernel_rfl) (by kernel_rfl) (by kernel_rfl) (fun _ _ _ h => h) (Or.inl ⟨by rfl, ?_⟩) (by assumption) ?_
    rotate_left 1
    · intro w hSw; (try dsimp only at hSw); go_simp; try (with_reducible rfl)
    try simp only [Act.put, List.setIfInBounds_toArray, List.set_cons_zero, List.set_cons_succ]
    refine wpAnyH_ready (rs := [10]) (by kernel_rfl) (by simp) ?_
    refine AllReadyH.cons (o := ⟨none, _, _, _, _, _⟩) rfl (fun K hK => ?_) AllReadyH.nil
    go_simp
    have hP6 := Lib.hid (hi6_at (.int .i64 s) (.int .u64 (m 0)) (.int .u64 (m 1)) (.int .u64 (m 2)) (.int .u64 (m 3)) (.int .u64 (m 4)) hP.out)
    have hR6 := Lib.hid ((hi6_other (c := w.heap.size + 1) (b := w.heap.size) (.int .i64 s) (.int .u64 (m 0)) (.int .u64 (m 1)) (.int .u64 (m 2)) (.int .u64 (m 3)) (.int .u64 (m 4)) (by omega)).trans R0.out)
    have hD6 := Lib.hid (hHeld.2.2.2.2.2.2.trans (hi6_below (b := w.heap.size) (.int .i64 s) (.int .u64 (m 0)) (.int .u64 (m 1)) (.int .u64 (m 2)) (.int .u64 (m 3)) (.int .u64 (m 4)) (Nat.le_refl _)))
    refine hK.out _ _ ?_ (fun hHeld2 => ?_)
    · obtain ⟨⟨c0, c1, c2, c3, c4, c5, _⟩, _, _⟩ := all12 hP6.out
      exact ⟨c0, c1, c2, c3, c4, c5, hD6.out⟩
    clear hK K hHeld hHeld2
    try simp only [Act.put, List.setIfInBounds_toArray, List.set_cons_zero, List.set_cons_succ]
    refine wpAnyH_done (by kernel_rfl) ?_ _
    try simp only [Act.put, List.setIfInBounds_toArray, List.set_cons_zero, List.set_cons_succ]
    go_wp2_with fail
    go_meet
    exact Lib.hid ⟨hP6.out, hR6.out, hD6.out⟩
  case rest =>
    obtain ⟨hP1, hR1, hD1⟩ := hcut.out
    clear hcut H0 R0 hP ia ja
    obtain ⟨⟨c0, c1, c2, c3, c4, c5, c6, c7, c8, c9, c10, c11⟩, _, cl⟩ := all12 hP1
    have R1 := Lib.hid hR1
    have D1 := Lib.hid hD1
    clear hR1 hD1 hP1
    go_wp2_with fail
    refine (pe _ D1.out).mono ?_
    rintro e w3 ⟨b5, u5, hb5, rfl, O5, B⟩
    obtain ⟨cy, rfl⟩ : ∃ c, u5 = .slice (some ⟨b5, 0, none⟩) Y.deps.length c := by obtain ⟨c, e, _⟩ := O5.shape; exact ⟨_, e⟩
    have hrb : w.heap.size + 1 < b5 := by have := lt_of_heap R1.out; omega
    have BA := (Below.refl w3.heap.size w3).alloc (Nat.le_refl _) (.cells #[.int .i64 Y.id.1, .int .i64 Y.id.2, .int .i64 Y.bal, .int .i64 Y.st, .int .i64 Y.k, .int .i64 Y.key, .int .i64 Y.v, .int .i64 Y.seq, .slice (some ⟨b5, 0, none⟩) Y.deps.length cy] 30)
    have E4 := Lib.hid (heap_alloc_new w3 (.cells #[.int .i64 Y.id.1, .int .i64 Y.id.2, .int .i64 Y.bal, .int .i64 Y.st, .int .i64 Y.k, .int .i64 Y.key, .int .i64 Y.v, .int .i64 Y.seq, .slice (some ⟨b5, 0, none⟩) Y.deps.length cy] 30))
    have R4 := Lib.hid (bblk (bstep B BA) (lt_of_heap R1.out) R1.out)
    have D4 := Lib.hid (bstep D1.out (bstep B BA))
    have hb5l := O5.lt
    replace O5 := Lib.hid (O5.up BA O5.lt)
    have hrb3 : w.heap.size + 1 < w3.heap.size := by omega
    clear B BA R1 D1 pe c0 c1 c2 c3 c4 c5 c6 c7 c8 c9 c10 c11 cl
    unfold env
    go_upto_region 3 with fail
    obtain ⟨eb, heb⟩ : ∃ c, Hid (w3.heap.size = c) := ⟨_, Lib.hid rfl⟩
    rw [heb.out] at E4 hb5l hrb3 ⊢
    generalize w3.alloc (.cells #[.int .i64 Y.id.1, .int .i64 Y.id.2, .int .i64 Y.bal, .int .i64 Y.st, .int .i64 Y.k, .int .i64 Y.key, .int .i64 Y.v, .int .i64 Y.seq, .slice (some ⟨b5, 0, none⟩) Y.deps.length cy] 30) = w4 at E4 R4 D4 O5 ⊢
    clear heb
    obtain ⟨⟨y0, y1, y2, y3, y4, y5, y6, y7, y8⟩, _, yl⟩ := nine_all E4.out
    obtain ⟨q, hq⟩ : ∃ q, Hid (enB Y = q) := ⟨_, Lib.hid rfl⟩
    have nv4 := nv _ _ O5.out.read
    rw [hq.out] at nv4
    unfold env at nv4
    go_wp2_with fail
    refine nv4.mono ?_
    rintro e w5 ⟨rfl, B⟩
    have E5 := Lib.hid (bblk B yl E4.out)
    have R5 := Lib.hid (bblk B (lt_of_heap R4.out) R4.out)
    have D5 := Lib.hid (bstep D4.out B)
    replace O5 := Lib.hid (O5.out.up B O5.out.lt)
    clear B nv nv4 E4 R4 D4 y0 y1 y2 y3 y4 y5 y6 y7 y8 yl
    obtain ⟨⟨y0, y1, y2, y3, y4, y5, y6, y7, y8⟩, _, yl⟩ := nine_all E5.out
    obtain ⟨⟨z0, z1, z2, z3, z4, z5, z6, z7, z8⟩, ⟨f0, f1, f2, f3, f4, f5, f6, f7, f8⟩, zl⟩ := nine_all R5.out
    cases q
    · have K5 := Lib.hid (Keep.of_below (r := bb) D5.out)
      have hp := Lib.hid (ppR_bad (E := E) hq.out)
      have hPP := Lib.hid (pp_fail K5.out (Nat.le_succ _) R5.out)
      go_wp2_with fail
      refine bodyPost_ret (en_resPp _ _ _ _ _ _ _ _ _ _ _ _ _ _ _ rfl rfl rfl hPP.out.2) rfl ?_
      rw [hp.out]
      exact hPP.out.1
    · have hlog := Lib.hid (log_of hv.out)
      have hE12 := hlog.out.1
      have bp := ibput_any bb _ _ E Y (.slice (some ⟨b5, 0, none⟩) Y.deps.length cy) w5 (by unfold maxLen; omega) hq.out (bkE_log hv.out (hBk.out _ D5.out) (hUU.out _ D5.out)) O5.out.read
      unfold BpZ at bp
      have hs5 := D5.out.size
      have hb5e : b5 < eb := hb5l
      have hR : Hid (PpR E Y = if (bputR E Y).2 = true then ((bputR E Y).1, Y, true) else ([], en0, false)) := Lib.hid (by
        unfold bputR
        by_cases h12 : (putE Y E).length ≤ 12
        · rw [ppR_good hq.out h12, if_pos h12]; rfl
        · rw [ppR_long h12, if_neg h12]; rfl)
      obtain ⟨⟨N, q2⟩, hQ⟩ : ∃ r, Hid (bputR E Y = r) := ⟨_, Lib.hid rfl⟩
      rw [hQ.out] at bp hR
      dsimp only at bp hR
      unfold env at bp
      clear hBk hUU hlog z0 z1 z2 z3 z4 z5 z6 z7 z8 f0 f1 f2 f3 f4 f5 f6 f7 f8 zl
      go_wp2_with fail
      refine bp.mono ?_
      rintro e w6 ⟨⟨v6, rfl, L6⟩, hK⟩
      have hs56 : w5.heap.size ≤ w6.heap.size := hK.size
      have hrl5 : w.heap.size + 1 < w5.heap.size := lt_of_heap R5.out
      have hb55 : b5 < w5.heap.size := O5.out.lt
      have K6 := Lib.hid ((Keep.of_below D5.out).trans (hK.mono hs5))
      have E6 := Lib.hid ((hK.block _ yl (by omega)).trans E5.out)
      have R6 := Lib.hid ((hK.block _ (lt_of_heap R5.out) (by omega)).trans R5.out)
      have O6 := Lib.hid (O5.out.same (hK.block _ O5.out.lt (by omega)))
      obtain ⟨g6, c6, hv6, _⟩ := L6.shape
      subst hv6
      have L6 := Lib.hid L6
      clear hK bp E5 R5 O5 D5 y0 y1 y2 y3 y4 y5 y6 y7 y8 yl
      obtain ⟨⟨y0, y1, y2, y3, y4, y5, y6, y7, y8⟩, _, yl⟩ := nine_all E6.out
      obtain ⟨⟨z0, z1, z2, z3, z4, z5, z6, z7, z8⟩, ⟨f0, f1, f2, f3, f4, f5, f6, f7, f8⟩, zl⟩ := nine_all R6.out
      cases q2
      · have hR0 := Lib.hid (show PpR E Y = ([], en0, false) from hR.out.trans (if_neg (by decide)))
        have hPP := Lib.hid (pp_fail K6.out (Nat.le_succ _) R6.out)
        go_wp2_with fail
        refine bodyPost_ret (en_resPp _ _ _ _ _ _ _ _ _ _ _ _ _ _ _ rfl rfl rfl hPP.out.2) rfl ?_
        rw [hR0.out]
        exact hPP.out.1
      · have hR1 := Lib.hid (show PpR E Y = (N, Y, true) from hR.out.trans (if_pos rfl))
        go_upto_region 8 with fail
        go_region
        all_goals
          have X9 := put9_exc (w := w6) (b := w.heap.size + 1) (.int .i64 Y.id.1) (.int .i64 Y.id.2) (.int .i64 Y.bal) (.int .i64 Y.st) (.int .i64 Y.k) (.int .i64 Y.key) (.int .i64 Y.v) (.int .i64 Y.seq) (.slice (some ⟨b5, 0, none⟩) Y.deps.length cy)
          have Bd := Below.drew (X9.to (B := w.heap.size) K6.out.size (fun c e => by omega))
          have hs69 := Bd.size
          have hw6 : w.heap.size ≤ w6.heap.size := K6.out.size
          have hb56 := O6.out.lt
          have L9 := Lib.hid ((L6.out.apart X9 (fun c h1 h2 e => by have : w5.heap.size ≤ c := h1; omega)).up (Below.drew (Below.refl _ _)))
          have O9 := Lib.hid ((O6.out.same (X9.block b5 hb56 (by omega))).up (Below.drew (Below.refl _ _)) (Nat.lt_of_lt_of_le hb56 X9.size))
          have K9 : Hid (Keep w.heap.size bb w _) := Lib.hid (K6.out.trans (Keep.of_below Bd))
          have P9 := Lib.hid (drew_heap (put9_at (.int .i64 Y.id.1) (.int .i64 Y.id.2) (.int .i64 Y.bal) (.int .i64 Y.st) (.int .i64 Y.k) (.int .i64 Y.key) (.int .i64 Y.v) (.int .i64 Y.seq) (.slice (some ⟨b5, 0, none⟩) Y.deps.length cy) R6.out))
          go_wp2_with fail
          refine bodyPost_ret (en_resPp _ _ _ _ _ _ _ _ _ _ _ _ _ _ _ rfl rfl rfl P9.out) rfl ?_
          rw [hR1.out]
          exact ⟨_, _, w5.heap.size, rfl, hs5, Nat.le_trans hs56 hs69, .inr ⟨b5, by omega, hb55, O9.out⟩, L9.out.wide (Nat.le_refl _) hs69 (Nat.le_refl _), K9.out⟩
end Go.Proofs.YtdikcenhakfheaaGreatDoor

/- What the model's Propose and PreAccept leave. -/
namespace Go.Proofs.YtdikcenhakfheaaGreatDoor
open Go.RowKit
set_option linter.unusedVariables false

/-- What the model's Propose and PreAccept leave. -/
def PmP (Q : List En × En × Bool) (w : World) (e : Ending) (w' : World) : Prop :=
  ∃ v u, e = .returned (.tuple #[v, env Q.2.1 u, .bool Q.2.2]) ∧ EnO w' w.heap.size v Q.1 ∧ Ids w' u Q.2.1.deps ∧ Below w.heap.size w w'
/-- .. and where the list of the entry lies. -/
def PmZ (Q : List En × En × Bool) (w : World) (e : Ending) (w' : World) : Prop :=
  ∃ v u, e = .returned (.tuple #[v, env Q.2.1 u, .bool Q.2.2]) ∧ EnO w' w.heap.size v Q.1 ∧ OwZ w' w.heap.size w'.heap.size u Q.2.1.deps ∧ Below w.heap.size w w'
theorem pmZ_P {Q : List En × En × Bool} {w w' : World} {e : Ending} (h : PmZ Q w e w') : PmP Q w e w' := by
  obtain ⟨v, u, h1, h2, h3, h4⟩ := h
  exact ⟨v, u, h1, h2, h3.read, h4⟩
theorem EnO.abv {w w' : World} {B : Nat} {v : Value} {E : List En} (h : EnO w B v E) (hk : ∀ b, B ≤ b → w'.heap[b]? = w.heap[b]?) : EnO w' B v E := by
  obtain ⟨g, cap, cur, t, rfl, h0, hg, h1, h2, h3⟩ := h
  refine ⟨g, cap, cur, t, rfl, h0, (hk g h0).trans hg, h1, h2, fun i hi => ?_⟩
  obtain ⟨c, u', q1, q2, hc, ho⟩ := h3 i hi
  exact ⟨c, u', q1, q2, hc, ho.same (hk c q1)⟩
theorem pm_fail {w W : World} {rb : Nat} {t : TypeId} {y0 y1 y2 y3 y4 y5 y6 y7 y8 : Value} (D : Below w.heap.size w W) (hr : w.heap.size ≤ rb) (hR : W.heap[rb]? = some (.cells #[y0, y1, y2, y3, y4, y5, y6, y7, y8] t (0, 0))) :
    PmZ ([], en0, false) w (.returned (.tuple #[.slice (some ⟨W.heap.size, 0, none⟩) 0 0, .agg #[.int .i64 0, .int .i64 0, .int .i64 0, .int .i64 0, .int .i64 0, .int .i64 0, .int .i64 0, .int .i64 0, .slice none 0 0], .bool false])) (((((((((((W.setCell ⟨rb, 0, none⟩ (.int .i64 0)).setCell ⟨rb, 1, none⟩ (.int .i64 0)).setCell ⟨rb, 2, none⟩ (.int .i64 0)).setCell ⟨rb, 3, none⟩ (.int .i64 0)).setCell ⟨rb, 4, none⟩ (.int .i64 0)).setCell ⟨rb, 5, none⟩ (.int .i64 0)).setCell ⟨rb, 6, none⟩ (.int .i64 0)).setCell ⟨rb, 7, none⟩ (.int .i64 0)).setCell ⟨rb, 8, none⟩ (.slice none 0 0))).alloc (.cells #[] 30)) ∧ (((((((((((W.setCell ⟨rb, 0, none⟩ (.int .i64 0)).setCell ⟨rb, 1, none⟩ (.int .i64 0)).setCell ⟨rb, 2, none⟩ (.int .i64 0)).setCell ⟨rb, 3, none⟩ (.int .i64 0)).setCell ⟨rb, 4, none⟩ (.int .i64 0)).setCell ⟨rb, 5, none⟩ (.int .i64 0)).setCell ⟨rb, 6, none⟩ (.int .i64 0)).setCell ⟨rb, 7, none⟩ (.int .i64 0)).setCell ⟨rb, 8, none⟩ (.slice none 0 0))).alloc (.cells #[] 30)).heap[rb]? = some (.cells #[.int .i64 0, .int .i64 0, .int .i64 0, .int .i64 0, .int .i64 0, .int .i64 0, .int .i64 0, .int .i64 0, .slice none 0 0] t (0, 0)) := by
  have hl := lt_of_heap hR
  have X := put9_exc (w := W) (b := rb) (.int .i64 0) (.int .i64 0) (.int .i64 0) (.int .i64 0) (.int .i64 0) (.int .i64 0) (.int .i64 0) (.int .i64 0) (.slice none 0 0)
  have hR9 := put9_at (.int .i64 0) (.int .i64 0) (.int .i64 0) (.int .i64 0) (.int .i64 0) (.int .i64 0) (.int .i64 0) (.int .i64 0) (.slice none 0 0) hR
  have hz : ((((((((((W.setCell ⟨rb, 0, none⟩ (.int .i64 0)).setCell ⟨rb, 1, none⟩ (.int .i64 0)).setCell ⟨rb, 2, none⟩ (.int .i64 0)).setCell ⟨rb, 3, none⟩ (.int .i64 0)).setCell ⟨rb, 4, none⟩ (.int .i64 0)).setCell ⟨rb, 5, none⟩ (.int .i64 0)).setCell ⟨rb, 6, none⟩ (.int .i64 0)).setCell ⟨rb, 7, none⟩ (.int .i64 0)).setCell ⟨rb, 8, none⟩ (.slice none 0 0))).heap.size = W.heap.size := by simp only [World.size_setCell]
  generalize (((((((((W.setCell ⟨rb, 0, none⟩ (.int .i64 0)).setCell ⟨rb, 1, none⟩ (.int .i64 0)).setCell ⟨rb, 2, none⟩ (.int .i64 0)).setCell ⟨rb, 3, none⟩ (.int .i64 0)).setCell ⟨rb, 4, none⟩ (.int .i64 0)).setCell ⟨rb, 5, none⟩ (.int .i64 0)).setCell ⟨rb, 6, none⟩ (.int .i64 0)).setCell ⟨rb, 7, none⟩ (.int .i64 0)).setCell ⟨rb, 8, none⟩ (.slice none 0 0)) = W9 at X hR9 hz ⊢
  have hs := D.size
  have L := (er_new W9 w.heap.size (by omega)).eno (Nat.zero_le _)
  rw [hz] at L
  refine ⟨⟨_, .slice none 0 0, rfl, L, .inl ⟨rfl, none, 0, rfl⟩, ?_⟩, (Below.heap_alloc _ _ _ (by omega)).trans hR9⟩
  exact (D.trans (X.to (by omega) (fun b e => by omega))).alloc (by omega) _
end Go.Proofs.YtdikcenhakfheaaGreatDoor

/- What the program's Propose and PreAccept leave. -/
namespace Go.Proofs.YtdikcenhakfheaaGreatDoor
open Go.RowKit
set_option linter.unusedVariables false

/-- What Propose and PreAccept leave. -/
def PrP (Q : List En × En × Bool) (w : World) (e : Ending) (w' : World) : Prop :=
  ∃ v u S, e = .returned (.tuple #[v, env Q.2.1 u, .bool Q.2.2]) ∧ w.heap.size ≤ S ∧ S ≤ w'.heap.size ∧ OwZ w' w.heap.size S u Q.2.1.deps ∧ LogO w' S w'.heap.size v Q.1 ∧ Below w.heap.size w w'
theorem prP_of {bb : Nat} {Q : List En × En × Bool} {w w' : World} {e : Ending} (h : PpP bb Q w e w') (hbb : w.heap.size ≤ bb) : PrP Q w e w' := by
  obtain ⟨v, u, S, h1, h2, h3, h4, h5, h6⟩ := h
  exact ⟨v, u, S, h1, h2, h3, h4, h5, h6.below hbb⟩
end Go.Proofs.YtdikcenhakfheaaGreatDoor

/- Results of Propose and of PreAccept in boxes: in which order the box and they were made. -/
namespace Go.Proofs.YtdikcenhakfheaaGreatDoor
open Go.RowKit
set_option linter.unusedVariables false

/-- What lies within [B, T) is all that a log and a list of ids read. -/
def ResQ (N : List En) (C : List Pid) (w : World) (B T : Nat) (v u : Value) : Prop :=
  T ≤ w.heap.size ∧ ∀ w', w.heap.size ≤ w'.heap.size → (∀ b, B ≤ b → b < T → w'.heap[b]? = w.heap[b]?) → Ens w' v N ∧ Ids w' u C
theorem ResQ.step {N : List En} {C : List Pid} {w w1 : World} {B T : Nat} {v u : Value} (h : ResQ N C w B T v u) (hs : w.heap.size ≤ w1.heap.size) (hk : ∀ b, B ≤ b → b < T → w1.heap[b]? = w.heap[b]?) : ResQ N C w1 B T v u :=
  ⟨Nat.le_trans h.1 hs, fun w' h1 h2 => h.2 w' (Nat.le_trans hs h1) (fun b h3 h4 => (h2 b h3 h4).trans (hk b h3 h4))⟩
theorem ResQ.up {N : List En} {C : List Pid} {w w1 : World} {B T : Nat} {v u : Value} (h : ResQ N C w B T v u) (hb : Below w.heap.size w w1) : ResQ N C w1 B T v u :=
  h.step hb.size (fun b _ h2 => hb.block b (Nat.lt_of_lt_of_le h2 h.1))
theorem EnO.hold {w w' : World} {B : Nat} {v : Value} {E : List En} (h : EnO w B v E) (hk : ∀ b, B ≤ b → b < w.heap.size → w'.heap[b]? = w.heap[b]?) : EnO w' B v E := by
  obtain ⟨g, cap, cur, t, rfl, h0, hg, h1, h2, h3⟩ := h
  refine ⟨g, cap, cur, t, rfl, h0, (hk g h0 (lt_of_heap hg)).trans hg, h1, h2, fun i hi => ?_⟩
  obtain ⟨c, u', q1, q2, hc, ho⟩ := h3 i hi
  exact ⟨c, u', q1, q2, hc, ho.same (hk c q1 ho.lt)⟩
theorem OwZ.hold {w w' : World} {B T : Nat} {u : Value} {C : List Pid} (h : OwZ w B T u C) (hk : ∀ b, B ≤ b → b < T → w'.heap[b]? = w.heap[b]?) : OwZ w' B T u C := by
  rcases h with h | ⟨b, h1, h2, h3⟩
  · exact .inl h
  · exact .inr ⟨b, h1, h2, h3.same (hk b h1 h2)⟩
theorem LogO.hold {w w' : World} {B T : Nat} {v : Value} {N : List En} (h : LogO w B T v N) (hs : w.heap.size ≤ w'.heap.size) (hk : ∀ b, B ≤ b → b < T → w'.heap[b]? = w.heap[b]?) : LogO w' B T v N := by
  obtain ⟨g, cap, U, P, Q, h1, h2, h3, h4⟩ := h
  obtain ⟨cur, t, g1, g2, g3⟩ := h4.blk
  refine ⟨g, cap, U, P, Q, h1, h2, h3, ⟨⟨cur, t, (hk g h4.g0 h4.g1).trans g1, g2, g3⟩, h4.g0, h4.g1, Nat.le_trans h4.top hs, fun i hi => ?_, h4.ord⟩⟩
  obtain ⟨a1, a2, a3, a4⟩ := h4.deps i hi
  exact ⟨a1.hold (fun b b1 b2 => hk b (by omega) (by omega)), a2, a3, a4⟩
/-- What a call leaves that answers a log, an entry and whether it went well. -/
def RsP (N : List En) (Y : En) (q : Bool) (W : World) (e : Ending) (w' : World) : Prop :=
  ∃ g c a m d, e = .returned (.tuple #[.slice (some ⟨g, 0, none⟩) N.length c, env Y (.slice a m d), .bool q]) ∧ ResQ N Y.deps w' W.heap.size w'.heap.size (.slice (some ⟨g, 0, none⟩) N.length c) (.slice a m d) ∧ Below W.heap.size W w'
theorem rs_m {Q : List En × En × Bool} {W w' : World} {e : Ending} (h : PmZ Q W e w') : RsP Q.1 Q.2.1 Q.2.2 W e w' := by
  obtain ⟨v, u, rfl, O, Z, B⟩ := h
  obtain ⟨g, c, rfl⟩ := O.len
  obtain ⟨a, m, d, rfl⟩ : ∃ ua un uc, u = .slice ua un uc := by obtain ⟨a, c, e, _⟩ := Z.read; exact ⟨a, _, c, e⟩
  exact ⟨g, c, a, m, d, rfl, ⟨Nat.le_refl _, fun w2 h1 h2 => ⟨(O.hold h2).read, (Z.hold h2).read⟩⟩, B⟩
theorem rs_p {Q : List En × En × Bool} {W w' : World} {e : Ending} (h : PrP Q W e w') : RsP Q.1 Q.2.1 Q.2.2 W e w' := by
  obtain ⟨v, u, S, rfl, s1, s2, Z, L, B⟩ := h
  obtain ⟨g, c, rfl, _⟩ := L.shape
  obtain ⟨a, m, d, rfl⟩ : ∃ ua un uc, u = .slice ua un uc := by obtain ⟨a, c, e, _⟩ := Z.read; exact ⟨a, _, c, e⟩
  exact ⟨g, c, a, m, d, rfl, ⟨Nat.le_refl _, fun w2 h1 h2 => ⟨(L.hold h1 (fun b g1 g2 => h2 b (Nat.le_trans s1 g1) g2)).read, (Z.hold (fun b g1 g2 => h2 b g1 (Nat.lt_of_lt_of_le g2 s2))).read⟩⟩, B⟩
/-- What a region leaves that makes such a call and boxes the entry. -/
def PrQ (N : List En) (Y : En) (q : Bool) (w : World) (s s' s2 : Value) (wx : World) : Prop :=
  ∃ xb g c a m d, s = .slice (some ⟨g, 0, none⟩) N.length c ∧ s' = .pointer (some ⟨xb, 0, none⟩) ∧ s2 = .bool q ∧ BxE wx xb Y (.slice a m d) ∧ Ens wx (.slice (some ⟨g, 0, none⟩) N.length c) N ∧ Ids wx (.slice a m d) Y.deps ∧ w.heap.size ≤ xb ∧ Below w.heap.size w wx
theorem FE.doneP {w0 W : World} {xb B T g c m d : Nat} {a : Option Addr} {N : List En} {Y : En} {q : Bool} (h : FE w0 W (some xb)) (hO : ResQ N Y.deps W B T (.slice (some ⟨g, 0, none⟩) N.length c) (.slice a m d)) (h3 : ¬ (B ≤ xb ∧ xb < T)) :
    PrQ N Y q w0 (.slice (some ⟨g, 0, none⟩) N.length c) (.pointer (some ⟨xb, 0, none⟩)) (.bool q) (((((((((W.setCell ⟨xb, 0, none⟩ (.int .i64 Y.id.1)).setCell ⟨xb, 1, none⟩ (.int .i64 Y.id.2)).setCell ⟨xb, 2, none⟩ (.int .i64 Y.bal)).setCell ⟨xb, 3, none⟩ (.int .i64 Y.st)).setCell ⟨xb, 4, none⟩ (.int .i64 Y.k)).setCell ⟨xb, 5, none⟩ (.int .i64 Y.key)).setCell ⟨xb, 6, none⟩ (.int .i64 Y.v)).setCell ⟨xb, 7, none⟩ (.int .i64 Y.seq)).setCell ⟨xb, 8, none⟩ (.slice a m d)) := by
  obtain ⟨g1, g2⟩ := h.bx xb rfl
  have B9 := put9_below (w := W) (b := xb) (B := w0.heap.size) (.int .i64 Y.id.1) (.int .i64 Y.id.2) (.int .i64 Y.bal) (.int .i64 Y.st) (.int .i64 Y.k) (.int .i64 Y.key) (.int .i64 Y.v) (.int .i64 Y.seq) (.slice a m d) g1
  obtain ⟨e1, e2⟩ := hO.2 _ B9.size (fun b h1 h2 => put9_other (w := W) (b := xb) (c := b) (.int .i64 Y.id.1) (.int .i64 Y.id.2) (.int .i64 Y.bal) (.int .i64 Y.st) (.int .i64 Y.k) (.int .i64 Y.key) (.int .i64 Y.v) (.int .i64 Y.seq) (.slice a m d) (fun e => h3 (by subst e; exact ⟨h1, h2⟩)))
  exact ⟨xb, g, c, a, m, d, rfl, rfl, rfl, put9_at _ _ _ _ _ _ _ _ _ g2, e1, e2, g1, h.kp.trans B9⟩
end Go.Proofs.YtdikcenhakfheaaGreatDoor

/- The program's Propose. -/
namespace Go.Proofs.YtdikcenhakfheaaGreatDoor
open Go.RowKit
set_option linter.unusedVariables false

theorem en_resIp (tm : Array Value) (w : World) (b : Nat) (l q : Value) (x0 x1 x2 x3 x4 x5 x6 x7 x8 : Value) (t : TypeId) (h1 : tm[6]? = some l) (h2 : tm[7]? = some (.pointer (some ⟨b, 0, none⟩))) (h3 : tm[8]? = some q) (h : w.heap[b]? = some (.cells #[x0, x1, x2, x3, x4, x5, x6, x7, x8] t (0, 0))) :
    (results Tryz.f23 tm).run Tryz.prog w = .ok (.tuple #[l, .agg #[x0, x1, x2, x3, x4, x5, x6, x7, x8], q]) w := by
  obtain ⟨t0, t1, t2, t3, t4, t5, t6, t7, t8⟩ := nine_cells h
  simp [results, Tryz.results23, go_sem, h1, h2, h3, t0, t1, t2, t3, t4, t5, t6, t7, t8]
section
variable {w wB wc w' : World} {ck ckey cv : Int}
theorem ipr_keep (hb : Below (w.heap.size + 2) wc w') (h : (wc.cell? ⟨w.heap.size, 0, none⟩ = some (.int .i64 ck) ∧ wc.cell? ⟨w.heap.size, 1, none⟩ = some (.int .i64 ckey) ∧ wc.cell? ⟨w.heap.size, 2, none⟩ = some (.int .i64 cv)) ∧ Below (w.heap.size + 1) wB wc) : (w'.cell? ⟨w.heap.size, 0, none⟩ = some (.int .i64 ck) ∧ w'.cell? ⟨w.heap.size, 1, none⟩ = some (.int .i64 ckey) ∧ w'.cell? ⟨w.heap.size, 2, none⟩ = some (.int .i64 cv)) ∧ Below (w.heap.size + 1) wB w' := ⟨⟨(hb.cell (p := ⟨w.heap.size, 0, none⟩) (by show w.heap.size < w.heap.size + 2; omega)).trans h.1.1, (hb.cell (p := ⟨w.heap.size, 1, none⟩) (by show w.heap.size < w.heap.size + 2; omega)).trans h.1.2.1, (hb.cell (p := ⟨w.heap.size, 2, none⟩) (by show w.heap.size < w.heap.size + 2; omega)).trans h.1.2.2⟩, h.2.trans (hb.mono (Nat.le_succ _))⟩
theorem ipr_drew (h : (wc.cell? ⟨w.heap.size, 0, none⟩ = some (.int .i64 ck) ∧ wc.cell? ⟨w.heap.size, 1, none⟩ = some (.int .i64 ckey) ∧ wc.cell? ⟨w.heap.size, 2, none⟩ = some (.int .i64 cv)) ∧ Below (w.heap.size + 1) wB wc) : (wc.drew.cell? ⟨w.heap.size, 0, none⟩ = some (.int .i64 ck) ∧ wc.drew.cell? ⟨w.heap.size, 1, none⟩ = some (.int .i64 ckey) ∧ wc.drew.cell? ⟨w.heap.size, 2, none⟩ = some (.int .i64 cv)) ∧ Below (w.heap.size + 1) wB wc.drew := ⟨h.1, h.2.drew⟩
theorem ipr_sets {x0 x1 x2 x3 x4 x5 x6 x7 x8 : Value} (h : (wc.cell? ⟨w.heap.size, 0, none⟩ = some (.int .i64 ck) ∧ wc.cell? ⟨w.heap.size, 1, none⟩ = some (.int .i64 ckey) ∧ wc.cell? ⟨w.heap.size, 2, none⟩ = some (.int .i64 cv)) ∧ Below (w.heap.size + 1) wB wc) : ((((((((((wc.setCell ⟨(w.heap.size + 1), 0, none⟩ (x0)).setCell ⟨(w.heap.size + 1), 1, none⟩ (x1)).setCell ⟨(w.heap.size + 1), 2, none⟩ (x2)).setCell ⟨(w.heap.size + 1), 3, none⟩ (x3)).setCell ⟨(w.heap.size + 1), 4, none⟩ (x4)).setCell ⟨(w.heap.size + 1), 5, none⟩ (x5)).setCell ⟨(w.heap.size + 1), 6, none⟩ (x6)).setCell ⟨(w.heap.size + 1), 7, none⟩ (x7)).setCell ⟨(w.heap.size + 1), 8, none⟩ (x8)).cell? ⟨w.heap.size, 0, none⟩ = some (.int .i64 ck) ∧ (((((((((wc.setCell ⟨(w.heap.size + 1), 0, none⟩ (x0)).setCell ⟨(w.heap.size + 1), 1, none⟩ (x1)).setCell ⟨(w.heap.size + 1), 2, none⟩ (x2)).setCell ⟨(w.heap.size + 1), 3, none⟩ (x3)).setCell ⟨(w.heap.size + 1), 4, none⟩ (x4)).setCell ⟨(w.heap.size + 1), 5, none⟩ (x5)).setCell ⟨(w.heap.size + 1), 6, none⟩ (x6)).setCell ⟨(w.heap.size + 1), 7, none⟩ (x7)).setCell ⟨(w.heap.size + 1), 8, none⟩ (x8)).cell? ⟨w.heap.size, 1, none⟩ = some (.int .i64 ckey) ∧ (((((((((wc.setCell ⟨(w.heap.size + 1), 0, none⟩ (x0)).setCell ⟨(w.heap.size + 1), 1, none⟩ (x1)).setCell ⟨(w.heap.size + 1), 2, none⟩ (x2)).setCell ⟨(w.heap.size + 1), 3, none⟩ (x3)).setCell ⟨(w.heap.size + 1), 4, none⟩ (x4)).setCell ⟨(w.heap.size + 1), 5, none⟩ (x5)).setCell ⟨(w.heap.size + 1), 6, none⟩ (x6)).setCell ⟨(w.heap.size + 1), 7, none⟩ (x7)).setCell ⟨(w.heap.size + 1), 8, none⟩ (x8)).cell? ⟨w.heap.size, 2, none⟩ = some (.int .i64 cv)) ∧ Below (w.heap.size + 1) wB (((((((((wc.setCell ⟨(w.heap.size + 1), 0, none⟩ (x0)).setCell ⟨(w.heap.size + 1), 1, none⟩ (x1)).setCell ⟨(w.heap.size + 1), 2, none⟩ (x2)).setCell ⟨(w.heap.size + 1), 3, none⟩ (x3)).setCell ⟨(w.heap.size + 1), 4, none⟩ (x4)).setCell ⟨(w.heap.size + 1), 5, none⟩ (x5)).setCell ⟨(w.heap.size + 1), 6, none⟩ (x6)).setCell ⟨(w.heap.size + 1), 7, none⟩ (x7)).setCell ⟨(w.heap.size + 1), 8, none⟩ (x8)) :=
  ⟨⟨cell_set _ (by omega) (cell_set _ (by omega) (cell_set _ (by omega) (cell_set _ (by omega) (cell_set _ (by omega) (cell_set _ (by omega) (cell_set _ (by omega) (cell_set _ (by omega) (cell_set _ (by omega) (h.1.1))))))))), cell_set _ (by omega) (cell_set _ (by omega) (cell_set _ (by omega) (cell_set _ (by omega) (cell_set _ (by omega) (cell_set _ (by omega) (cell_set _ (by omega) (cell_set _ (by omega) (cell_set _ (by omega) (h.1.2.1))))))))), cell_set _ (by omega) (cell_set _ (by omega) (cell_set _ (by omega) (cell_set _ (by omega) (cell_set _ (by omega) (cell_set _ (by omega) (cell_set _ (by omega) (cell_set _ (by omega) (cell_set _ (by omega) (h.1.2.2)))))))))⟩, h.2.trans (put9_below _ _ _ _ _ _ _ _ _ (Nat.le_refl _))⟩
end
theorem joinZ (g : Nat → Nat) : joinF (fun _ => 0) g = g := joinF_zero g
theorem pro_eq {E : List En} {p ck ckey cv : Int} (hv : logB E = true) (hc : cvB ck ckey cv = true) :
    PpR E ⟨(p, topF (ofR p) (fun x => x.id.2) E + 1), 0, 1, ck, ckey, cv, max 0 (topE (clsE E (p, topF (ofR p) (fun x => x.id.2) E + 1) ck ckey) + 1), idsO (joinF (fun _ => 0) (mask (idsE (clsE E (p, topF (ofR p) (fun x => x.id.2) E + 1) ck ckey))))⟩ = propR E p ck ckey cv := by
  unfold propR proE
  rw [if_pos hv, joinF_zero, idsO_mask (cls_srt hv _ ck ckey), show max 0 (topE (clsE E (p, topF (ofR p) (fun x => x.id.2) E + 1) ck ckey) + 1) = topE (clsE E (p, topF (ofR p) (fun x => x.id.2) E + 1) ck ckey) + 1 by have := (top_rank hv (p, topF (ofR p) (fun x => x.id.2) E + 1) ck ckey).1; omega]
theorem pro_bad {E : List En} {p ck ckey cv : Int} (Y : En) (h1 : Y.k = ck) (h2 : Y.key = ckey) (h3 : Y.v = cv) (hc : cvB ck ckey cv = false) : PpR E Y = propR E p ck ckey cv := by
  have a1 : enB Y = false := by
    cases e : enB Y with
    | false => rfl
    | true => have := (enB_of e).2.2.2.2.2.2; rw [h1, h2, h3, hc] at this; cases this
  have a2 : enB (proE E p ck ckey cv) = false := by
    cases e : enB (proE E p ck ckey cv) with
    | false => rfl
    | true => have := (enB_of e).2.2.2.2.2.2; unfold proE at this; dsimp only at this; rw [hc] at this; cases this
  rw [ppR_bad a1]
  unfold propR
  split
  · rw [ppR_bad a2]
  · rfl

set_option maxRecDepth 100000 in
set_option maxHeartbeats 8000000 in
theorem iprop_any (u : Value) (E : List En) (p ck ckey cv : Int) (w : World) (hT : TabIn w) (h : Ens w u E) :
    Calls Tryz.prog 23 #[u, .int .i64 p, .agg #[.int .i64 ck, .int .i64 ckey, .int .i64 cv]] w (PrP (propR E p ck ckey cv) w) := by
  have A0 := Lib.hid ((Below.heap_alloc _ (.cells #[.int .i64 0, .int .i64 0, .int .i64 0, .int .i64 0, .int .i64 0, .int .i64 0, .int .i64 0, .int .i64 0, .slice none 0 0] 30) _ (by simp)).trans (heap_alloc_new w (.cells #[.int .i64 ck, .int .i64 ckey, .int .i64 cv] 27)))
  have R0 := Lib.hid (heap_alloc_at (w.alloc (.cells #[.int .i64 ck, .int .i64 ckey, .int .i64 cv] 27)) (.cells #[.int .i64 0, .int .i64 0, .int .i64 0, .int .i64 0, .int .i64 0, .int .i64 0, .int .i64 0, .int .i64 0, .slice none 0 0] 30) (w.heap.size + 1) (by simp))
  have D0 := Lib.hid (((Below.refl w.heap.size w).alloc (Nat.le_refl _) (.cells #[.int .i64 ck, .int .i64 ckey, .int .i64 cv] 27)).alloc (by simp) (.cells #[.int .i64 0, .int .i64 0, .int .i64 0, .int .i64 0, .int .i64 0, .int .i64 0, .int .i64 0, .int .i64 0, .slice none 0 0] 30))
  obtain ⟨U, hU, bk⟩ := ibook_any u E _ (h.up D0.out (Nat.le_refl _))
  have hU := Lib.hid hU
  have hT := Lib.hid (TabIn.up hT D0.out (Nat.le_refl _))
  unfold BkPost at bk
  obtain ⟨q, hq⟩ : ∃ q, Hid (logB E = q) := ⟨_, Lib.hid rfl⟩
  rw [hq.out] at bk
  clear h
  go_enter Tryz.func23, Tryz.ntmps23
  go_wp2_with fail
  refine bk.mono ?_
  rintro e wB ⟨hcase, B⟩
  have hs0 : w.heap.size + 2 ≤ ((w.alloc (.cells #[.int .i64 ck, .int .i64 ckey, .int .i64 cv] 27)).alloc (.cells #[.int .i64 0, .int .i64 0, .int .i64 0, .int .i64 0, .int .i64 0, .int .i64 0, .int .i64 0, .int .i64 0, .slice none 0 0] 30)).heap.size := by simp
  have A1 := Lib.hid (bblk B (lt_of_heap A0.out) A0.out)
  have R1 := Lib.hid (bblk B (lt_of_heap R0.out) R0.out)
  have D1 := Lib.hid (bstep D0.out B)
  replace hU := Lib.hid (fun k (hk : k < E.length) => (hU.out k hk).up B (Nat.le_refl _))
  replace hT := Lib.hid (TabIn.up hT.out B (Nat.le_refl _))
  clear B A0 R0 D0 bk
  rcases hcase with ⟨hqt, bb, hbb0, rfl, hB⟩ | ⟨hqf, rfl⟩
  · subst hqt
    have hbb : w.heap.size + 2 ≤ bb := Nat.le_trans hs0 hbb0
    clear hs0 hbb0
    obtain ⟨c0, c1, c2, _, _, _⟩ := blk3 A1.out
    have H0 := Lib.hid (show (wB.cell? ⟨w.heap.size, 0, none⟩ = some (.int .i64 ck) ∧ wB.cell? ⟨w.heap.size, 1, none⟩ = some (.int .i64 ckey) ∧ wB.cell? ⟨w.heap.size, 2, none⟩ = some (.int .i64 cv)) ∧ Below (w.heap.size + 1) wB wB from ⟨⟨c0, c1, c2⟩, Below.refl _ _⟩)
    have hB := Lib.hid hB
    have nx := fun W (hB : Book W bb E.length (mapE E U E.length)) => inx_book bb E U p W hq.out hB
    obtain ⟨num, hnum⟩ : ∃ n, Hid (topF (ofR p) (fun x => x.id.2) E + 1 = n) := ⟨_, Lib.hid rfl⟩
    rw [hnum.out] at nx
    have pr : ∀ W, Book W bb E.length (mapE E U E.length) → (∀ k, k < E.length → Ids W (U k) (E.getD k en0).deps) → TabIn W → Calls Tryz.prog 39 #[.map (some bb), .agg #[.int .i64 p, .int .i64 num, .int .i64 0, .int .i64 ck, .int .i64 ckey, .int .i64 cv, .int .i64 0, .int .u64 0, .int .u64 0, .int .u64 0, .int .u64 0, .int .u64 0]] W (PpP bb (propR E p ck ckey cv) W) := fun W hB hU hT => by
      cases hc : cvB ck ckey cv with
      | true =>
        have := ipropose_any bb E U (p, num) 0 ck ckey cv 0 ck ckey (fun _ => 0) W hq.out (fun k1 key1 v1 h => by unfold clB; rw [h, hc]; rfl) hB hU (fun _ => by omega) hT
        rw [← hnum.out, pro_eq hq.out hc, hnum.out] at this
        exact this
      | false =>
        have := ipropose_any bb E U (p, num) 0 ck ckey cv 0 3 0 (fun _ => 0) W hq.out (fun k1 key1 v1 h => by unfold clB; rw [h, hc]; simp [kcB]) hB hU (fun _ => by omega) hT
        rw [pro_bad _ rfl rfl rfl hc] at this
        exact this
    obtain ⟨⟨N, Y, q⟩, hQ⟩ : ∃ Q, Hid (propR E p ck ckey cv = Q) := ⟨_, Lib.hid rfl⟩
    rw [hQ.out] at pr
    unfold PpP at pr
    dsimp only at pr
    have R0 := R1
    clear R1 A1 c0 c1 c2
    go_upto_region 4 with fail
    go_region_held3 (fun w' => (w'.cell? ⟨w.heap.size, 0, none⟩ = some (.int .i64 ck) ∧ w'.cell? ⟨w.heap.size, 1, none⟩ = some (.int .i64 ckey) ∧ w'.cell? ⟨w.heap.size, 2, none⟩ = some (.int .i64 cv)) ∧ Below (w.heap.size + 1) wB w') (first | (with_reducible assumption) | (with_reducible exact ipr_sets (by assumption)) | (with_reducible exact ipr_drew H0.out) | (with_reducible exact ipr_drew (by assumption)) | (with_reducible exact ipr_keep (by assumption) (by assumption)) | (with_reducible exact ipr_keep (by assumption) (ipr_drew (by assumption))))
      (first | (go_at_call 59; (first | (with_reducible refine (nx _ hB.out).mono ?_) | (with_reducible refine (nx _ (hB.out.up (Below.drew (Below.refl _ _)) hB.out.lt)).mono ?_)); rintro e w' ⟨rfl, hb⟩; have hbz : Below wB.heap.size wB w' := (by first | exact hb | exact (Below.drew (Below.refl _ _)).trans hb); have hb2 : Below (w.heap.size + 2) _ w' := hb.mono (by have := lt_of_heap R0.out; exact this); replace R0 := Lib.hid (bblk hbz (lt_of_heap R0.out) R0.out); replace hB := Lib.hid (hB.out.up hbz hB.out.lt); replace hU := Lib.hid (fun k (hk : k < E.length) => (hU.out k hk).up hbz (Nat.le_refl _)); replace hT := Lib.hid (TabIn.up hT.out hbz (Nat.le_refl _)))
             | (go_at_call 39; (first | (with_reducible refine (pr _ hB.out hU.out hT.out).mono ?_) | (with_reducible refine (pr _ (hB.out.up (Below.drew (Below.refl _ _)) hB.out.lt) (fun k hk => (hU.out k hk).up (Below.drew (Below.refl _ _)) (Nat.le_refl _)) (TabIn.up hT.out (Below.drew (Below.refl _ _)) (Nat.le_refl _))).mono ?_)); rintro e w9 ⟨v9, u9, S9, rfl, hS1, hS2, O9, L9, hk⟩; obtain ⟨ga, gc, rfl, _⟩ := L9.shape; obtain ⟨va9, vn9, vc9, rfl⟩ : ∃ ua un uc, u9 = .slice ua un uc := (by obtain ⟨a, c, e, _⟩ := O9.read; exact ⟨a, _, c, e⟩); have hz3 := lt_of_heap R0.out; have hzz := Nat.le_trans (lt_of_heap R0.out) hS1; have hb3 : Below (w.heap.size + 2) _ w9 := (hk.mono (by have := lt_of_heap R0.out; exact this)).below hbb; replace R0 := Lib.hid (hb3.block (w.heap.size + 1) (by omega) |>.trans R0.out); have O9 := Lib.hid O9; have L9 := Lib.hid L9; have hk := Lib.hid hk; obtain ⟨⟨z0, z1, z2, z3, z4, z5, z6, z7, z8⟩, ⟨f0, f1, f2, f3, f4, f5, f6, f7, f8⟩, zl⟩ := nine_all R0.out; unfold env))
    have X9 := put9_exc (w := w9) (b := w.heap.size + 1) (.int .i64 Y.id.1) (.int .i64 Y.id.2) (.int .i64 Y.bal) (.int .i64 Y.st) (.int .i64 Y.k) (.int .i64 Y.key) (.int .i64 Y.v) (.int .i64 Y.seq) (.slice va9 vn9 vc9)
    have hs9 := X9.size
    have Oz := Lib.hid ((O9.out.apart X9 (fun c h1 h2 e => by have : w.heap.size + 1 < c := Nat.lt_of_lt_of_le hz3 h1; omega)).wide (B' := w.heap.size) (Nat.le_of_lt (Nat.lt_of_le_of_lt (Nat.le_succ _) hz3)) (Nat.le_refl _))
    have Lz := Lib.hid ((L9.out.apart X9 (fun c h1 h2 e => by omega)).wide (Nat.le_refl _) hs9 (Nat.le_refl _))
    have e2 := hb2.mono (show w.heap.size ≤ w.heap.size + 2 by omega)
    have e3 := hb3.mono (show w.heap.size ≤ w.heap.size + 2 by omega)
    have D2 : Below w.heap.size w w' := by first | exact D1.out.trans e2 | exact D1.out.drew.trans e2
    have D3 : Below w.heap.size w w9 := by first | exact D2.trans e3 | exact D2.drew.trans e3
    have D9 := Lib.hid (D3.trans (X9.to (B := w.heap.size) (by have := D3.size; omega) (fun c e => by omega)))
    go_wp2_with fail
    refine bodyPost_ret (en_resIp _ _ _ _ _ _ _ _ _ _ _ _ _ _ _ rfl rfl rfl (put9_at _ _ _ _ _ _ _ _ _ R0.out)) rfl ?_
    rw [hQ.out]
    exact ⟨_, _, S9, rfl, by omega, Nat.le_trans hS2 hs9, Oz.out, Lz.out, D9.out⟩
  · subst hqf
    clear hs0
    have hPP := Lib.hid (pp_fail (bb := w.heap.size) (Keep.of_below D1.out) (Nat.le_succ _) R1.out)
    have hQ := Lib.hid (show propR E p ck ckey cv = ([], en0, false) from if_neg (by rw [hq.out]; simp))
    obtain ⟨⟨z0, z1, z2, z3, z4, z5, z6, z7, z8⟩, ⟨f0, f1, f2, f3, f4, f5, f6, f7, f8⟩, zl⟩ := nine_all R1.out
    clear A1 hU hT
    go_wp2_with fail
    refine bodyPost_ret (en_resIp _ _ _ _ _ _ _ _ _ _ _ _ _ _ _ rfl rfl rfl hPP.out.2) rfl ?_
    rw [hQ.out]
    exact prP_of hPP.out.1 (Nat.le_refl _)
end Go.Proofs.YtdikcenhakfheaaGreatDoor
