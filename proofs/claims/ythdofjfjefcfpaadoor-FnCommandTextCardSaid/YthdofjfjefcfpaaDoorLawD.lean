/- The walk of the law FnExactCommandFrom. -/
import Derived.Test.YthdofjfjefcfpaaDoorSfrom
namespace Go.Proofs.YthdofjfjefcfpaaDoor
open Go.RowKit
set_option linter.unusedVariables false
set_option maxRecDepth 100000

theorem eqCmd_self (k key v : Int) (w : World) :
    Calls Tryd.prog 14 #[.agg #[.int .i64 k, .int .i64 key, .int .i64 v], .agg #[.int .i64 k, .int .i64 key, .int .i64 v]] w fun e w' => e = .returned (.bool true) ∧ Below w.heap.size w w' := by
  go_enter Tryd.func14, Tryd.ntmps14
  go_wp2_with fail
  go_ret
  exact ⟨rfl, ((Below.refl _ _).alloc (Nat.le_refl _) _).alloc (by simp) _⟩

/-- A text, and what both answer of it. -/
theorem both_from (s : ByteArray) (hs : s.size ≤ 2000000) : ∃ (k key v : Int) (b : Bool), (∀ w : World, Gl w → Calls Tryd.prog 10 #[.string s] w fun e w' => e = .returned (.tuple #[.agg #[.int .i64 k, .int .i64 key, .int .i64 v], .bool b]) ∧ Below w.heap.size w w') ∧
    (∀ w : World, Calls Tryd.prog 12 #[.string s] w fun e w' => e = .returned (.tuple #[.agg #[.int .i64 k, .int .i64 key, .int .i64 v], .bool b]) ∧ Below w.heap.size w w') ∧ ((b = true ∧ cvB k key v = true ∧ txt k key v = s) ∨ (b = false ∧ k = 0 ∧ key = 0 ∧ v = 0)) := by
  by_cases h : ∃ k key v, cvB k key v = true ∧ txt k key v = s
  · obtain ⟨k, key, v, hv, rfl⟩ := h
    exact ⟨k, key, v, true, fun w hg => ifrom_yes k key v hv hs w hg, fun w => sfrom_yes k key v hv w, .inl ⟨rfl, hv, rfl⟩⟩
  · have h' : ∀ k key v, cvB k key v = true → txt k key v ≠ s := fun k key v hv ht => h ⟨k, key, v, hv, ht⟩
    exact ⟨0, 0, 0, false, fun w hg => ifrom_no s h' hs w hg, fun w => sfrom_no s h' hs w, .inr ⟨rfl, rfl, rfl, rfl⟩⟩

set_option maxHeartbeats 1000000 in
theorem exFrom_any (s : ByteArray) (w : World) (hsz : s.size ≤ maxLen) (hg : Gl w) :
    Calls Tryd.prog 6 #[.string s] w fun e w' => e = .returned (.bool true) ∧ Below w.heap.size w w' := by
  unfold maxLen at hsz
  by_cases hl : 1048576 < s.size
  · clear hg
    go_enter Tryd.func6, Tryd.ntmps6
    go_wp2_with fail
    go_ret
    exact ⟨rfl, Below.refl _ _⟩
  · obtain ⟨k, key, v, b, h1, h2, _⟩ := both_from s (by omega)
    have h1 := Lib.hid h1
    have hg := Lib.hid hg
    go_enter Tryd.func6, Tryd.ntmps6
    go_wp2_with fail
    refine (h2 _).mono ?_
    rintro e w1 ⟨rfl, hb1⟩
    have D1 := Lib.hid hb1
    clear hb1 h2
    go_wp2_with fail
    refine (h1.out _ (hg.out.up (D1.out.alloc D1.out.size _))).mono ?_
    rintro e w2 ⟨rfl, hb2⟩
    have h12 : Below w1.heap.size w1 w2 := ((Below.refl _ _).alloc (Nat.le_refl _) _).trans (hb2.mono (by simp))
    obtain ⟨a1, a2, a3, _, _, _⟩ := blk3 ((hb2.block w1.heap.size (by simp)).trans (heap_alloc_new w1 _))
    have D2 := Lib.hid (D1.out.trans (h12.mono D1.out.size))
    have z2 : w1.heap.size < w2.heap.size := by have := hb2.size; simp at this; omega
    clear hb2 h12 h1 hg
    go_wp2_with fail
    refine (eqCmd_self k key v _).mono ?_
    rintro e w3 ⟨rfl, hb3⟩
    have D3 := Lib.hid ((D2.out.alloc D2.out.size (.cells #[.int .i64 k, .int .i64 key, .int .i64 v] 24)).trans (hb3.mono (by have := D2.out.size; simp; omega)))
    clear hb3 a1 a2 a3
    go_wp2_with fail
    go_ret
    exact ⟨rfl, D3.out⟩
end Go.Proofs.YthdofjfjefcfpaaDoor
