/- Texts laid together. -/
import Derived.Test.YtdikcenhakfheaaProg
import Derived.WalkKit
import Derived.WalkSpells
import Derived.Lib.Hide
import Derived.IntWalk
/- Small facts of blocks; l6In. -/
namespace Go.Proofs.Ytdikcenhakfheaa
open Go.RowKit
set_option linter.unusedVariables false

/-- Cells and marks of elder blocks, behind a call that only makes memory. -/
theorem bcell {W w1 : World} (hb : Below W.heap.size W w1) : (∀ b o, b < W.heap.size → w1.cell? ⟨b, o, none⟩ = W.cell? ⟨b, o, none⟩) ∧ (∀ b o, b < W.heap.size → w1.frozen? ⟨b, o, none⟩ = W.frozen? ⟨b, o, none⟩) :=
  ⟨fun b o h => hb.cell (p := ⟨b, o, none⟩) h, fun b o h => hb.frozen (p := ⟨b, o, none⟩) h⟩

/-- A block of three cells, known whole. -/
theorem blk3 {w : World} {b : Nat} {x y z : Value} {t : TypeId} (h : w.heap[b]? = some (.cells #[x, y, z] t (0, 0))) :
    w.cell? ⟨b, 0, none⟩ = some x ∧ w.cell? ⟨b, 1, none⟩ = some y ∧ w.cell? ⟨b, 2, none⟩ = some z ∧ w.frozen? ⟨b, 0, none⟩ = false ∧ w.frozen? ⟨b, 1, none⟩ = false ∧ w.frozen? ⟨b, 2, none⟩ = false := by
  simp [World.cell?, World.frozen?, h]

/-- .. behind a store. -/
theorem blk3_set {w : World} {b : Nat} {x y z : Value} {t : TypeId} (h : w.heap[b]? = some (.cells #[x, y, z] t (0, 0))) (u : Value) :
    (w.setCell ⟨b, 0, none⟩ u).heap[b]? = some (.cells #[u, y, z] t (0, 0)) ∧ (w.setCell ⟨b, 1, none⟩ u).heap[b]? = some (.cells #[x, u, z] t (0, 0)) ∧ (w.setCell ⟨b, 2, none⟩ u).heap[b]? = some (.cells #[x, y, u] t (0, 0)) := by
  simp [World.setCell, Array.getElem?_modify, h]

theorem heap_alloc_at (w : World) (o : Obj) (n : Nat) (h : n = w.heap.size) : (w.alloc o).heap[n]? = some o := by subst h; exact heap_alloc_new w o

def inB (n lo hi : Int) : Bool := decide (lo ≤ n ∧ n ≤ hi)

theorem inB_t {n lo hi : Int} (h1 : lo ≤ n) (h2 : n ≤ hi) : inB n lo hi = true := decide_eq_true ⟨h1, h2⟩

theorem inB_f1 {n lo hi : Int} (h1 : ¬ lo ≤ n) : inB n lo hi = false := decide_eq_false (fun h => h1 h.1)

theorem inB_f2 {n lo hi : Int} (h2 : ¬ n ≤ hi) : inB n lo hi = false := decide_eq_false (fun h => h2 h.2)

theorem in_any (n lo hi : Int) (w : World) :
    Calls Try.prog 18 #[.int .i64 n, .int .i64 lo, .int .i64 hi] w fun e w' => e = .returned (.bool (inB n lo hi)) ∧ w = w' := by
  by_cases h1 : lo ≤ n
  · by_cases h2 : n ≤ hi
    · rw [inB_t h1 h2]
      go_enter Try.func18, Try.ntmps18
      go_wp2
      go_ret
      exact ⟨rfl, rfl⟩
    · rw [inB_f2 h2]
      go_enter Try.func18, Try.ntmps18
      go_wp2
      go_ret
      exact ⟨rfl, rfl⟩
  · rw [inB_f1 h1]
    go_enter Try.func18, Try.ntmps18
    go_wp2
    go_ret
    exact ⟨rfl, rfl⟩

theorem ret_bool {a b : Bool} (h : a = b) : Ending.returned (.bool a) = .returned (.bool b) := by rw [h]
/-- A block of two cells, known whole. -/
theorem blk2 {w : World} {b : Nat} {x y : Value} {t : TypeId} (h : w.heap[b]? = some (.cells #[x, y] t (0, 0))) :
    w.cell? ⟨b, 0, none⟩ = some x ∧ w.cell? ⟨b, 1, none⟩ = some y ∧ w.frozen? ⟨b, 0, none⟩ = false ∧ w.frozen? ⟨b, 1, none⟩ = false := by
  simp [World.cell?, World.frozen?, h]
end Go.Proofs.Ytdikcenhakfheaa

/- replicaFits of the program. -/
namespace Go.Proofs.Ytdikcenhakfheaa
open Go.RowKit
set_option linter.unusedVariables false

set_option maxRecDepth 100000 in
/-- replicaFits of the program. -/
theorem irf_any (n : Int) (w : World) :
    Calls Try.prog 17 #[.int .i64 n] w fun e w' => e = .returned (.bool (decide (0 ≤ n ∧ n ≤ 4))) ∧ w = w' := by
  by_cases h1 : 0 ≤ n
  · by_cases h2 : n ≤ 4
    · rw [decide_eq_true ⟨h1, h2⟩]
      have h3 : n < 5 := by omega
      go_enter Try.func17, Try.ntmps17
      go_wp2_with fail
      go_ret
      exact ⟨rfl, rfl⟩
    · rw [decide_eq_false (fun h => h2 h.2)]
      have h3 : ¬ n < 5 := by omega
      go_enter Try.func17, Try.ntmps17
      go_wp2_with fail
      go_ret
      exact ⟨rfl, rfl⟩
  · rw [decide_eq_false (fun h => h1 h.1)]
    go_enter Try.func17, Try.ntmps17
    go_wp2_with fail
    go_ret
    exact ⟨rfl, rfl⟩

end Go.Proofs.Ytdikcenhakfheaa

/- ballotFits of the program. -/
namespace Go.Proofs.Ytdikcenhakfheaa
open Go.RowKit
set_option linter.unusedVariables false

set_option maxRecDepth 100000 in
theorem ibf_any (n : Int) (w : World) :
    Calls Try.prog 16 #[.int .i64 n] w fun e w' => e = .returned (.bool (decide (0 ≤ n ∧ n ≤ 999))) ∧ w = w' := by
  by_cases h1 : 0 ≤ n
  · by_cases h2 : n ≤ 999
    · rw [decide_eq_true ⟨h1, h2⟩]
      go_enter Try.func16, Try.ntmps16
      go_wp2_with fail
      go_ret
      exact ⟨rfl, rfl⟩
    · rw [decide_eq_false (fun h => h2 h.2)]
      go_enter Try.func16, Try.ntmps16
      go_wp2_with fail
      go_ret
      exact ⟨rfl, rfl⟩
  · rw [decide_eq_false (fun h => h1 h.1)]
    go_enter Try.func16, Try.ntmps16
    go_wp2_with fail
    go_ret
    exact ⟨rfl, rfl⟩

end Go.Proofs.Ytdikcenhakfheaa

/- Ballots: BallotOf and BallotNext, of the program and of the model. -/
namespace Go.Proofs.Ytdikcenhakfheaa
open Go.RowKit
set_option linter.unusedVariables false

/-- What BallotOf answers. -/
def balR (n p : Int) : Int := if (0 ≤ n ∧ n ≤ 999) ∧ (0 ≤ p ∧ p ≤ 4) ∧ 5 * n + p ≤ 999 then 5 * n + p else -1
/-- What BallotNext answers. -/
def nbalR (b p : Int) : Int := if (0 ≤ b ∧ b ≤ 999) ∧ (0 ≤ p ∧ p ≤ 4) then balR (if p ≤ b % 5 then b / 5 + 1 else b / 5) p else -1
theorem bal_good {n p : Int} (h1 : 0 ≤ n ∧ n ≤ 999) (h2 : 0 ≤ p ∧ p ≤ 4) (h3 : 5 * n + p ≤ 999) : balR n p = 5 * n + p := if_pos ⟨h1, h2, h3⟩
theorem bal_bad {n p : Int} (h : ¬ ((0 ≤ n ∧ n ≤ 999) ∧ (0 ≤ p ∧ p ≤ 4) ∧ 5 * n + p ≤ 999)) : balR n p = -1 := if_neg h
theorem bal_cases (n p : Int) : balR n p = -1 ∨ ∃ v, 0 ≤ v ∧ v ≤ 999 ∧ n = v / 5 ∧ p = v % 5 ∧ balR n p = v := by
  by_cases h : (0 ≤ n ∧ n ≤ 999) ∧ (0 ≤ p ∧ p ≤ 4) ∧ 5 * n + p ≤ 999
  · exact .inr ⟨5 * n + p, by omega, by omega, by omega, by omega, bal_good h.1 h.2.1 h.2.2⟩
  · exact .inl (bal_bad h)
theorem nbal_bad {b p : Int} (h : ¬ ((0 ≤ b ∧ b ≤ 999) ∧ (0 ≤ p ∧ p ≤ 4))) : nbalR b p = -1 := if_neg h
theorem nbal_same {b p : Int} (h1 : 0 ≤ b ∧ b ≤ 999) (h2 : 0 ≤ p ∧ p ≤ 4) (h : ¬ p ≤ b % 5) : nbalR b p = balR (b / 5) p := by unfold nbalR; rw [if_pos ⟨h1, h2⟩, if_neg h]
theorem nbal_up {b p : Int} (h1 : 0 ≤ b ∧ b ≤ 999) (h2 : 0 ≤ p ∧ p ≤ 4) (h : p ≤ b % 5) : nbalR b p = balR (b / 5 + 1) p := by unfold nbalR; rw [if_pos ⟨h1, h2⟩, if_pos h]
theorem nbal_cases (b p : Int) : nbalR b p = -1 ∨ (0 ≤ b ∧ b ≤ 999) ∧ ∃ v, b < v ∧ v ≤ 999 ∧ v - b ≤ 5 ∧ p = v % 5 ∧ nbalR b p = v := by
  by_cases h : (0 ≤ b ∧ b ≤ 999) ∧ (0 ≤ p ∧ p ≤ 4)
  · by_cases h1 : p ≤ b % 5
    · rw [nbal_up h.1 h.2 h1]
      rcases bal_cases (b / 5 + 1) p with e | ⟨v, h2, h3, h4, h5, e⟩
      · exact .inl e
      · exact .inr ⟨h.1, v, by omega, h3, by omega, h5, e⟩
    · rw [nbal_same h.1 h.2 h1]
      rcases bal_cases (b / 5) p with e | ⟨v, h2, h3, h4, h5, e⟩
      · exact .inl e
      · exact .inr ⟨h.1, v, by omega, h3, by omega, h5, e⟩
  · exact .inl (nbal_bad h)
theorem nbal_other {b p v : Int} (hv : 0 ≤ v) (hp : p = v % 5) : nbalR b ((p + 1) % 5) ≠ v := by
  rcases nbal_cases b ((p + 1) % 5) with e | ⟨_, v2, h1, h2, h3, h4, e⟩
  · omega
  · rw [e]; omega
theorem inB_yes {x a b : Int} (h : a ≤ x ∧ x ≤ b) : inB x a b = true := by simp [inB]; omega
theorem inB_not {x a b : Int} (h : ¬ (a ≤ x ∧ x ≤ b)) : inB x a b = false := by simp [inB]; omega

set_option maxRecDepth 100000 in
set_option maxHeartbeats 4000000 in
theorem iball_any (n p : Int) (w : World) :
    Calls Try.prog 9 #[.int .i64 n, .int .i64 p] w fun e w' => e = .returned (.int .i64 (balR n p)) ∧ w = w' := by
  have bf := ibf_any n w
  have rf := irf_any p w
  have bb := ibf_any (5 * n + p) w
  by_cases h1 : 0 ≤ n ∧ n ≤ 999
  · rw [decide_eq_true h1] at bf
    by_cases h2 : 0 ≤ p ∧ p ≤ 4
    · rw [decide_eq_true h2] at rf
      have nn : 0 ≤ n := h1.1
      have nm : n ≤ 999 := h1.2
      have pn : 0 ≤ p := h2.1
      have pm : p ≤ 4 := h2.2
      by_cases h3 : 5 * n + p ≤ 999
      · rw [decide_eq_true (show 0 ≤ 5 * n + p ∧ 5 * n + p ≤ 999 by omega)] at bb
        rw [bal_good h1 h2 h3]
        clear h1 h2
        go_enter Try.func9, Try.ntmps9
        go_wp2_with fail
        refine bf.mono ?_
        rintro e w' ⟨rfl, rfl⟩
        clear bf
        go_wp2_with fail
        refine rf.mono ?_
        rintro e w' ⟨rfl, rfl⟩
        clear rf
        go_wp2_with fail
        refine bb.mono ?_
        rintro e w' ⟨rfl, rfl⟩
        clear bb
        go_wp2_with fail
        go_ret
        exact ⟨rfl, rfl⟩
      · rw [decide_eq_false (show ¬ (0 ≤ 5 * n + p ∧ 5 * n + p ≤ 999) by omega)] at bb
        rw [bal_bad (show ¬ ((0 ≤ n ∧ n ≤ 999) ∧ (0 ≤ p ∧ p ≤ 4) ∧ 5 * n + p ≤ 999) by omega)]
        clear h1 h2
        have h4 : 999 < 5 * n + p := by omega
        go_enter Try.func9, Try.ntmps9
        go_wp2_with fail
        refine bf.mono ?_
        rintro e w' ⟨rfl, rfl⟩
        clear bf
        go_wp2_with fail
        refine rf.mono ?_
        rintro e w' ⟨rfl, rfl⟩
        clear rf
        go_wp2_with fail
        refine bb.mono ?_
        rintro e w' ⟨rfl, rfl⟩
        clear bb
        go_wp2_with fail
        go_ret
        exact ⟨rfl, rfl⟩
    · rw [decide_eq_false h2] at rf
      rw [bal_bad (show ¬ ((0 ≤ n ∧ n ≤ 999) ∧ (0 ≤ p ∧ p ≤ 4) ∧ 5 * n + p ≤ 999) by omega)]
      clear h1 h2
      go_enter Try.func9, Try.ntmps9
      go_wp2_with fail
      refine bf.mono ?_
      rintro e w' ⟨rfl, rfl⟩
      clear bf
      go_wp2_with fail
      refine rf.mono ?_
      rintro e w' ⟨rfl, rfl⟩
      clear rf
      go_wp2_with fail
      go_ret
      exact ⟨rfl, rfl⟩
  · rw [decide_eq_false h1] at bf
    rw [bal_bad (show ¬ ((0 ≤ n ∧ n ≤ 999) ∧ (0 ≤ p ∧ p ≤ 4) ∧ 5 * n + p ≤ 999) by omega)]
    clear h1
    go_enter Try.func9, Try.ntmps9
    go_wp2_with fail
    refine bf.mono ?_
    rintro e w' ⟨rfl, rfl⟩
    clear bf
    go_wp2_with fail
    go_ret
    exact ⟨rfl, rfl⟩

set_option maxRecDepth 100000 in
set_option maxHeartbeats 4000000 in
theorem sball_any (n p : Int) (w : World) :
    Calls Try.prog 10 #[.int .i64 n, .int .i64 p] w fun e w' => e = .returned (.int .i64 (balR n p)) ∧ w = w' := by
  have bf := in_any n 0 999 w
  have rf := in_any p 0 4 w
  by_cases h1 : 0 ≤ n ∧ n ≤ 999
  · rw [inB_yes h1] at bf
    by_cases h2 : 0 ≤ p ∧ p ≤ 4
    · rw [inB_yes h2] at rf
      have nn : 0 ≤ n := h1.1
      have nm : n ≤ 999 := h1.2
      have pn : 0 ≤ p := h2.1
      have pm : p ≤ 4 := h2.2
      by_cases h3 : 5 * n + p ≤ 999
      · rw [bal_good h1 h2 h3]
        clear h1 h2
        go_enter Try.func10, Try.ntmps10
        go_wp2_with fail
        refine bf.mono ?_
        rintro e w' ⟨rfl, rfl⟩
        clear bf
        go_wp2_with fail
        refine rf.mono ?_
        rintro e w' ⟨rfl, rfl⟩
        clear rf
        go_wp2_with fail
        go_ret
        exact ⟨rfl, rfl⟩
      · rw [bal_bad (show ¬ ((0 ≤ n ∧ n ≤ 999) ∧ (0 ≤ p ∧ p ≤ 4) ∧ 5 * n + p ≤ 999) by omega)]
        clear h1 h2
        have h4 : 999 < 5 * n + p := by omega
        go_enter Try.func10, Try.ntmps10
        go_wp2_with fail
        refine bf.mono ?_
        rintro e w' ⟨rfl, rfl⟩
        clear bf
        go_wp2_with fail
        refine rf.mono ?_
        rintro e w' ⟨rfl, rfl⟩
        clear rf
        go_wp2_with fail
        go_ret
        exact ⟨rfl, rfl⟩
    · rw [inB_not h2] at rf
      rw [bal_bad (show ¬ ((0 ≤ n ∧ n ≤ 999) ∧ (0 ≤ p ∧ p ≤ 4) ∧ 5 * n + p ≤ 999) by omega)]
      clear h1 h2
      go_enter Try.func10, Try.ntmps10
      go_wp2_with fail
      refine bf.mono ?_
      rintro e w' ⟨rfl, rfl⟩
      clear bf
      go_wp2_with fail
      refine rf.mono ?_
      rintro e w' ⟨rfl, rfl⟩
      clear rf
      go_wp2_with fail
      go_ret
      exact ⟨rfl, rfl⟩
  · rw [inB_not h1] at bf
    rw [bal_bad (show ¬ ((0 ≤ n ∧ n ≤ 999) ∧ (0 ≤ p ∧ p ≤ 4) ∧ 5 * n + p ≤ 999) by omega)]
    clear h1
    go_enter Try.func10, Try.ntmps10
    go_wp2_with fail
    refine bf.mono ?_
    rintro e w' ⟨rfl, rfl⟩
    clear bf
    go_wp2_with fail
    go_ret
    exact ⟨rfl, rfl⟩

set_option maxRecDepth 100000 in
set_option maxHeartbeats 4000000 in
theorem inbal_any (b p : Int) (w : World) :
    Calls Try.prog 12 #[.int .i64 b, .int .i64 p] w fun e w' => e = .returned (.int .i64 (nbalR b p)) ∧ w = w' := by
  have bf := ibf_any b w
  have rf := irf_any p w
  have s1 := iball_any (b / 5) p w
  have s2 := iball_any (b / 5 + 1) p w
  by_cases h1 : 0 ≤ b ∧ b ≤ 999
  · rw [decide_eq_true h1] at bf
    by_cases h2 : 0 ≤ p ∧ p ≤ 4
    · rw [decide_eq_true h2] at rf
      have bn : 0 ≤ b := h1.1
      have bm : b ≤ 999 := h1.2
      have pn : 0 ≤ p := h2.1
      have pm : p ≤ 4 := h2.2
      by_cases h3 : p ≤ b % 5
      · rw [nbal_up h1 h2 h3]
        rw [bal_good (show 0 ≤ b / 5 ∧ b / 5 ≤ 999 by omega) h2 (show 5 * (b / 5) + p ≤ 999 by omega)] at s1
        have h4 : ¬ b < 5 * (b / 5) + p := by omega
        obtain ⟨x, hx⟩ : ∃ x, 5 * (b / 5) + p = x := ⟨_, rfl⟩
        rw [hx] at s1 h4
        clear h1 h2 h3 hx
        go_enter Try.func12, Try.ntmps12
        go_wp2_with fail
        refine bf.mono ?_
        rintro e w' ⟨rfl, rfl⟩
        clear bf
        go_wp2_with fail
        refine rf.mono ?_
        rintro e w' ⟨rfl, rfl⟩
        clear rf
        go_wp2_with fail
        refine s1.mono ?_
        rintro e w' ⟨rfl, rfl⟩
        clear s1
        go_wp2_with fail
        refine s2.mono ?_
        rintro e w' ⟨rfl, rfl⟩
        clear s2
        go_wp2_with fail
        go_ret
        exact ⟨rfl, rfl⟩
      · rw [nbal_same h1 h2 h3, bal_good (show 0 ≤ b / 5 ∧ b / 5 ≤ 999 by omega) h2 (show 5 * (b / 5) + p ≤ 999 by omega)]
        rw [bal_good (show 0 ≤ b / 5 ∧ b / 5 ≤ 999 by omega) h2 (show 5 * (b / 5) + p ≤ 999 by omega)] at s1
        have h4 : b < 5 * (b / 5) + p := by omega
        obtain ⟨x, hx⟩ : ∃ x, 5 * (b / 5) + p = x := ⟨_, rfl⟩
        rw [hx] at s1 h4 ⊢
        clear h1 h2 h3 hx s2
        go_enter Try.func12, Try.ntmps12
        go_wp2_with fail
        refine bf.mono ?_
        rintro e w' ⟨rfl, rfl⟩
        clear bf
        go_wp2_with fail
        refine rf.mono ?_
        rintro e w' ⟨rfl, rfl⟩
        clear rf
        go_wp2_with fail
        refine s1.mono ?_
        rintro e w' ⟨rfl, rfl⟩
        clear s1
        go_wp2_with fail
        go_ret
        exact ⟨rfl, rfl⟩
    · rw [decide_eq_false h2] at rf
      rw [nbal_bad (show ¬ ((0 ≤ b ∧ b ≤ 999) ∧ (0 ≤ p ∧ p ≤ 4)) by omega)]
      clear h1 h2
      go_enter Try.func12, Try.ntmps12
      go_wp2_with fail
      refine bf.mono ?_
      rintro e w' ⟨rfl, rfl⟩
      clear bf
      go_wp2_with fail
      refine rf.mono ?_
      rintro e w' ⟨rfl, rfl⟩
      clear rf
      go_wp2_with fail
      go_ret
      exact ⟨rfl, rfl⟩
  · rw [decide_eq_false h1] at bf
    rw [nbal_bad (show ¬ ((0 ≤ b ∧ b ≤ 999) ∧ (0 ≤ p ∧ p ≤ 4)) by omega)]
    clear h1
    go_enter Try.func12, Try.ntmps12
    go_wp2_with fail
    refine bf.mono ?_
    rintro e w' ⟨rfl, rfl⟩
    clear bf
    go_wp2_with fail
    go_ret
    exact ⟨rfl, rfl⟩

set_option maxRecDepth 100000 in
set_option maxHeartbeats 4000000 in
theorem snbal_any (b p : Int) (w : World) :
    Calls Try.prog 13 #[.int .i64 b, .int .i64 p] w fun e w' => e = .returned (.int .i64 (nbalR b p)) ∧ w = w' := by
  have bf := in_any b 0 999 w
  have rf := in_any p 0 4 w
  have s1 := sball_any (b / 5) p w
  have s2 := sball_any (b / 5 + 1) p w
  by_cases h1 : 0 ≤ b ∧ b ≤ 999
  · rw [inB_yes h1] at bf
    by_cases h2 : 0 ≤ p ∧ p ≤ 4
    · rw [inB_yes h2] at rf
      have bn : 0 ≤ b := h1.1
      have bm : b ≤ 999 := h1.2
      have pn : 0 ≤ p := h2.1
      have pm : p ≤ 4 := h2.2
      by_cases h3 : p ≤ b % 5
      · rw [nbal_up h1 h2 h3]
        clear h1 h2 s1
        go_enter Try.func13, Try.ntmps13
        go_wp2_with fail
        refine bf.mono ?_
        rintro e w' ⟨rfl, rfl⟩
        clear bf
        go_wp2_with fail
        refine rf.mono ?_
        rintro e w' ⟨rfl, rfl⟩
        clear rf
        go_wp2_with fail
        refine s2.mono ?_
        rintro e w' ⟨rfl, rfl⟩
        clear s2
        go_wp2_with fail
        go_ret
        exact ⟨rfl, rfl⟩
      · rw [nbal_same h1 h2 h3]
        have h4 : b % 5 < p := by omega
        clear h1 h2 h3 s2
        go_enter Try.func13, Try.ntmps13
        go_wp2_with fail
        refine bf.mono ?_
        rintro e w' ⟨rfl, rfl⟩
        clear bf
        go_wp2_with fail
        refine rf.mono ?_
        rintro e w' ⟨rfl, rfl⟩
        clear rf
        go_wp2_with fail
        refine s1.mono ?_
        rintro e w' ⟨rfl, rfl⟩
        clear s1
        go_wp2_with fail
        go_ret
        exact ⟨rfl, rfl⟩
    · rw [inB_not h2] at rf
      rw [nbal_bad (show ¬ ((0 ≤ b ∧ b ≤ 999) ∧ (0 ≤ p ∧ p ≤ 4)) by omega)]
      clear h1 h2
      go_enter Try.func13, Try.ntmps13
      go_wp2_with fail
      refine bf.mono ?_
      rintro e w' ⟨rfl, rfl⟩
      clear bf
      go_wp2_with fail
      refine rf.mono ?_
      rintro e w' ⟨rfl, rfl⟩
      clear rf
      go_wp2_with fail
      go_ret
      exact ⟨rfl, rfl⟩
  · rw [inB_not h1] at bf
    rw [nbal_bad (show ¬ ((0 ≤ b ∧ b ≤ 999) ∧ (0 ≤ p ∧ p ≤ 4)) by omega)]
    clear h1
    go_enter Try.func13, Try.ntmps13
    go_wp2_with fail
    refine bf.mono ?_
    rintro e w' ⟨rfl, rfl⟩
    clear bf
    go_wp2_with fail
    go_ret
    exact ⟨rfl, rfl⟩

end Go.Proofs.Ytdikcenhakfheaa
