/- Texts laid together. -/
import Derived.Test.YtblkpkjgmjnimaaC02
/- The program's unset: nothing is told. -/
namespace Go.Proofs.Ytblkpkjgmjnimaa
open Go.RowKit
set_option linter.unusedVariables false

set_option maxRecDepth 100000 in
set_option maxHeartbeats 4000000 in
theorem iuns_any (e : En) (u : Value) (w : World) (h : Ids w u e.deps) :
    Calls Try.prog 28 #[env e u] w fun x w' => x = .returned (.bool (unB e)) ∧ Below w.heap.size w w' := by
  obtain ⟨ua, un, uc, rfl, hun⟩ : ∃ ua un uc, u = .slice ua un uc ∧ un = e.deps.length := by obtain ⟨a, c, e, _⟩ := h; exact ⟨a, _, c, e, rfl⟩
  replace hun := Lib.hid hun
  have A := Lib.hid (heap_alloc_new w (.cells #[.int .i64 e.id.1, .int .i64 e.id.2, .int .i64 e.bal, .int .i64 e.st, .int .i64 e.k, .int .i64 e.key, .int .i64 e.v, .int .i64 e.seq, .slice ua un uc] 46))
  have D := Lib.hid ((Below.refl w.heap.size w).alloc (Nat.le_refl _) (.cells #[.int .i64 e.id.1, .int .i64 e.id.2, .int .i64 e.bal, .int .i64 e.st, .int .i64 e.k, .int .i64 e.key, .int .i64 e.v, .int .i64 e.seq, .slice ua un uc] 46))
  clear h
  unfold env
  go_enter Try.func28, Try.ntmps28
  go_upto_region 1 with fail
  generalize w.alloc (.cells #[.int .i64 e.id.1, .int .i64 e.id.2, .int .i64 e.bal, .int .i64 e.st, .int .i64 e.k, .int .i64 e.key, .int .i64 e.v, .int .i64 e.seq, .slice ua un uc] 46) = w1 at A D ⊢
  obtain ⟨⟨y0, y1, y2, y3, y4, y5, y6, y7, y8⟩, _, yl⟩ := nine_all A.out
  by_cases h0 : e.id.1 = 0
  · rw [h0] at y0
    by_cases h1 : e.id.2 = 0
    · rw [h1] at y1
      by_cases h2 : e.bal = 0
      · rw [h2] at y2
        by_cases h3 : e.st = 0
        · rw [h3] at y3
          by_cases h4 : e.k = 0
          · rw [h4] at y4
            by_cases h5 : e.key = 0
            · rw [h5] at y5
              by_cases h6 : e.v = 0
              · rw [h6] at y6
                by_cases h7 : e.seq = 0
                · rw [h7] at y7
                  by_cases h8 : e.deps.length = 0
                  · have hR := Lib.hid (show true = unB e from (decide_eq_true ⟨h0, h1, h2, h3, h4, h5, h6, h7, h8⟩).symm)
                    obtain rfl : un = 0 := by rw [hun.out, h8]
                    clear h0 h1 h2 h3 h4 h5 h6 h7 h8
                    go_wp2_with fail
                    go_ret
                    exact ⟨by rw [← hR.out]; rfl, D.out⟩
                  · have hR := Lib.hid (show false = unB e from (decide_eq_false (fun g => h8 g.2.2.2.2.2.2.2.2)).symm)
                    rw [← hun.out] at h8
                    have hb : ((un : Int) == 0) = false := by simp; omega
                    clear h0 h1 h2 h3 h4 h5 h6 h7
                    go_wp2_with fail
                    go_ret
                    exact ⟨by rw [← hR.out]; rfl, D.out⟩
                · have hb : (e.seq == 0) = false := by simpa using h7
                  have hR := Lib.hid (show false = unB e from (decide_eq_false (fun g => h7 (g.2.2.2.2.2.2.2.1))).symm)
                  clear h0 h1 h2 h3 h4 h5 h6
                  go_wp2_with fail
                  go_ret
                  exact ⟨by rw [← hR.out]; rfl, D.out⟩
              · have hb : (e.v == 0) = false := by simpa using h6
                have hR := Lib.hid (show false = unB e from (decide_eq_false (fun g => h6 (g.2.2.2.2.2.2.1))).symm)
                clear h0 h1 h2 h3 h4 h5
                go_wp2_with fail
                go_ret
                exact ⟨by rw [← hR.out]; rfl, D.out⟩
            · have hb : (e.key == 0) = false := by simpa using h5
              have hR := Lib.hid (show false = unB e from (decide_eq_false (fun g => h5 (g.2.2.2.2.2.1))).symm)
              clear h0 h1 h2 h3 h4
              go_wp2_with fail
              go_ret
              exact ⟨by rw [← hR.out]; rfl, D.out⟩
          · have hb : (e.k == 0) = false := by simpa using h4
            have hR := Lib.hid (show false = unB e from (decide_eq_false (fun g => h4 (g.2.2.2.2.1))).symm)
            clear h0 h1 h2 h3
            go_wp2_with fail
            go_ret
            exact ⟨by rw [← hR.out]; rfl, D.out⟩
        · have hb : (e.st == 0) = false := by simpa using h3
          have hR := Lib.hid (show false = unB e from (decide_eq_false (fun g => h3 (g.2.2.2.1))).symm)
          clear h0 h1 h2
          go_wp2_with fail
          go_ret
          exact ⟨by rw [← hR.out]; rfl, D.out⟩
      · have hb : (e.bal == 0) = false := by simpa using h2
        have hR := Lib.hid (show false = unB e from (decide_eq_false (fun g => h2 (g.2.2.1))).symm)
        clear h0 h1
        go_wp2_with fail
        go_ret
        exact ⟨by rw [← hR.out]; rfl, D.out⟩
    · have hb : (e.id.2 == 0) = false := by simpa using h1
      have hR := Lib.hid (show false = unB e from (decide_eq_false (fun g => h1 (g.2.1))).symm)
      clear h0
      go_wp2_with fail
      go_ret
      exact ⟨by rw [← hR.out]; rfl, D.out⟩
  · have hb : (e.id.1 == 0) = false := by simpa using h0
    have hR := Lib.hid (show false = unB e from (decide_eq_false (fun g => h0 (g.1))).symm)
    go_wp2_with fail
    go_ret
    exact ⟨by rw [← hR.out]; rfl, D.out⟩
end Go.Proofs.Ytblkpkjgmjnimaa
