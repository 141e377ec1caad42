/- Texts laid together. -/
import Derived.Test.YtblkpkjgmjnimaaC01
import Derived.Deep.RegionWith
import Derived.Deep.RegionHeld3
import Derived.StillTailTactics
import Derived.Laws.Bits64b
import Derived.Laws.NewBlocks
/- Two ids compared. -/
namespace Go.Proofs.Ytblkpkjgmjnimaa
open Go.RowKit
set_option linter.unusedVariables false

theorem eq_id (p q x y : Int) (w : World) : (binOp .eql 24 (.agg #[.int .i64 p, .int .i64 q]) (.agg #[.int .i64 x, .int .i64 y])).run Try.prog w = .ok (.bool (decide ((p, q) = (x, y)))) w := by
  by_cases h1 : p = x
  · subst h1
    by_cases h2 : q = y
    · subst h2; simp [go_sem]
    · simp [go_sem, h2]
  · simp [go_sem, h1]
theorem ne_id (p q x y : Int) (w : World) : (binOp .neq 24 (.agg #[.int .i64 p, .int .i64 q]) (.agg #[.int .i64 x, .int .i64 y])).run Try.prog w = .ok (.bool (!decide ((p, q) = (x, y)))) w := by
  by_cases h1 : p = x
  · subst h1
    by_cases h2 : q = y
    · subst h2; simp [go_sem]
    · simp [go_sem, h2]
  · simp [go_sem, h1]
end Go.Proofs.Ytblkpkjgmjnimaa

/- The model's l3Has. -/
namespace Go.Proofs.Ytblkpkjgmjnimaa
open Go.RowKit
set_option linter.unusedVariables false

theorem has_t {L : List Pid} {k : Nat} {a : Pid} (hk : k < L.length) (h : L.getD k nop = a) : hasP L a = true := by
  unfold hasP
  rw [decide_eq_true_iff, ← h, List.getD_eq_getElem?_getD, List.getElem?_eq_getElem hk]
  exact List.getElem_mem _
theorem has_f {L : List Pid} {a : Pid} (h : ∀ j, j < L.length → ¬ L.getD j nop = a) : hasP L a = false := by
  unfold hasP
  rw [decide_eq_false_iff_not]
  intro hm
  obtain ⟨i, hi, e⟩ := List.getElem_of_mem hm
  refine h i hi ?_
  rw [List.getD_eq_getElem?_getD, List.getElem?_eq_getElem hi]
  exact e
theorem pid_eq {c : Pid} {x y : Int} : c = (x, y) ↔ c.1 = x ∧ c.2 = y := by
  obtain ⟨p, q⟩ := c
  simp

set_option maxRecDepth 100000 in
set_option maxHeartbeats 2000000 in
theorem shas_at (b off ca : Nat) (L : List Pid) (x y : Int) (w : World) (hb : b < w.heap.size) (hm : L.length ≤ 2000000) (h : ∀ i, i < L.length → w.cell? ⟨b, off + i * 2, none⟩ = some (.int .i64 (L.getD i nop).1) ∧ w.cell? ⟨b, off + i * 2 + 1, none⟩ = some (.int .i64 (L.getD i nop).2)) :
    Calls Try.prog 32 #[.slice (some ⟨b, off, none⟩) L.length ca, .agg #[.int .i64 x, .int .i64 y]] w fun e w' => e = .returned (.bool (hasP L (x, y))) ∧ Below w.heap.size w w' := by
  have h := Lib.hid h
  obtain ⟨n, hn⟩ : ∃ n, Hid (L.length = n) := ⟨_, Lib.hid rfl⟩
  obtain ⟨q, hq⟩ : ∃ q, Hid (hasP L (x, y) = q) := ⟨_, Lib.hid rfl⟩
  rw [hn.out] at hm ⊢
  rw [hq.out]
  go_enter Try.func32, Try.ntmps32
  go_wp2_with fail
  go_loopw [5] (fun i wr => ∃ k : Nat, k ≤ n ∧ i = .int .i64 k ∧ Hid (∀ j, j < k → ¬ L.getD j nop = (x, y)) ∧ wr.cell? ⟨w.heap.size, 0, none⟩ = some (.int .i64 x) ∧ wr.cell? ⟨w.heap.size, 1, none⟩ = some (.int .i64 y) ∧ Below w.heap.size w wr) (fun i _ => n - (intOf i).toNat)
  case atStart => exact ⟨0, Nat.zero_le _, rfl, Lib.hid (fun j hj => absurd hj (Nat.not_lt_zero _)), by go_simp, by go_simp, (Below.refl _ _).alloc (Nat.le_refl _) _⟩
  case round =>
    obtain ⟨k, hk, rfl, hno, x0, x1, hnx⟩ := hrel
    by_cases hlt : k < n
    · obtain ⟨h0, h1⟩ := h.out k (by rw [hn.out]; exact hlt)
      have q0 := (hnx.cell (p := ⟨b, off + k * 2, none⟩) hb).trans h0
      have q1 := (hnx.cell (p := ⟨b, off + k * 2 + 1, none⟩) hb).trans h1
      clear h0 h1
      obtain ⟨c, hc⟩ : ∃ c, Hid (L.getD k nop = c) := ⟨_, Lib.hid rfl⟩
      rw [hc.out] at q0 q1
      obtain ⟨p, r⟩ := c
      dsimp only at q0 q1
      have hnx := Lib.hid hnx
      clear h
      by_cases e1 : p = x
      · subst e1
        by_cases e2 : r = y
        · subst e2
          have hqt := hq.out
          rw [has_t (by rw [hn.out]; exact hlt) hc.out] at hqt
          subst hqt
          go_wp2_with fail
          go_quiet (fail)
          go_wp2_with fail
          go_ret
          exact ⟨rfl, bdrewN hnx.out _⟩
        · have R := Lib.hid (up_to hno.out (show ¬ L.getD k nop = (p, y) by rw [hc.out]; intro e; exact e2 (congrArg Prod.snd e)))
          go_wp2_with fail
          go_quiet (fail)
          go_wp2_with fail
          go_roundw
          case rel => exact ⟨k + 1, by omega, by go_num, R, by go_simp, by go_simp, bdrewN hnx.out _⟩
          case measure => simp [intOf]; omega
      · have R := Lib.hid (up_to hno.out (show ¬ L.getD k nop = (x, y) by rw [hc.out]; intro e; exact e1 (congrArg Prod.fst e)))
        go_wp2_with fail
        go_quiet (fail)
        go_wp2_with fail
        go_roundw
        case rel => exact ⟨k + 1, by omega, by go_num, R, by go_simp, by go_simp, bdrewN hnx.out _⟩
        case measure => simp [intOf]; omega
    · obtain rfl : k = n := by omega
      have hqf := hq.out
      rw [has_f (fun j hj => hno.out j (by rw [← hn.out]; exact hj))] at hqf
      subst hqf
      have hnx := Lib.hid hnx
      clear h
      go_wp2_with fail
      go_ret
      exact ⟨rfl, hnx.out⟩

theorem shas_nil (a : Option Addr) (ca : Nat) (x y : Int) (w : World) :
    Calls Try.prog 32 #[.slice a 0 ca, .agg #[.int .i64 x, .int .i64 y]] w fun e w' => e = .returned (.bool (hasP [] (x, y))) ∧ Below w.heap.size w w' := by
  rw [show hasP [] (x, y) = false from rfl]
  go_enter Try.func32, Try.ntmps32
  go_wp2_with fail
  refine wp_loop_rounds 1 ?_
  rw [rounds_succ]
  go_wp2_with fail
  go_ret
  exact ⟨rfl, (Below.refl _ _).alloc (Nat.le_refl _) _⟩

theorem shas_any (u : Value) (L : List Pid) (x y : Int) (w : World) (h : Ids w u L) :
    Calls Try.prog 32 #[u, .agg #[.int .i64 x, .int .i64 y]] w fun e w' => e = .returned (.bool (hasP L (x, y))) ∧ Below w.heap.size w w' := by
  obtain ⟨a, cap, rfl, h1, h2, h3⟩ := h
  rcases h3 with h3 | ⟨b, off, rfl, h4, h5⟩
  · obtain rfl : L = [] := List.length_eq_zero_iff.1 h3
    exact shas_nil a cap x y w
  · exact shas_at b off cap L x y w h4 h2 h5
end Go.Proofs.Ytblkpkjgmjnimaa

/- replicaFits of the program. -/
namespace Go.Proofs.Ytblkpkjgmjnimaa
open Go.RowKit
set_option linter.unusedVariables false

set_option maxRecDepth 100000 in
/-- replicaFits of the program. -/
theorem irf_any (n : Int) (w : World) :
    Calls Try.prog 27 #[.int .i64 n] w fun e w' => e = .returned (.bool (decide (0 ≤ n ∧ n ≤ 4))) ∧ w = w' := by
  by_cases h1 : 0 ≤ n
  · by_cases h2 : n ≤ 4
    · rw [decide_eq_true ⟨h1, h2⟩]
      have h3 : n < 5 := by omega
      go_enter Try.func27, Try.ntmps27
      go_wp2_with fail
      go_ret
      exact ⟨rfl, rfl⟩
    · rw [decide_eq_false (fun h => h2 h.2)]
      have h3 : ¬ n < 5 := by omega
      go_enter Try.func27, Try.ntmps27
      go_wp2_with fail
      go_ret
      exact ⟨rfl, rfl⟩
  · rw [decide_eq_false (fun h => h1 h.1)]
    go_enter Try.func27, Try.ntmps27
    go_wp2_with fail
    go_ret
    exact ⟨rfl, rfl⟩

end Go.Proofs.Ytblkpkjgmjnimaa

/- Contracts of the functions on ids: valid, compare, IdBefore, of the program and of the model. -/
namespace Go.Proofs.Ytblkpkjgmjnimaa
open Go.RowKit
set_option linter.unusedVariables false

theorem idB_t {r n : Int} (h1 : 0 ≤ r) (h2 : r ≤ 4) (h3 : 1 ≤ n) (h4 : n ≤ 50) : idB r n = true := by simp [idB]; omega
theorem idB_f {r n : Int} (h : ¬ (0 ≤ r ∧ r ≤ 4 ∧ 1 ≤ n ∧ n ≤ 50)) : idB r n = false := by simp [idB]; omega
theorem idB_of {r n : Int} (h : idB r n = true) : 0 ≤ r ∧ r ≤ 4 ∧ 1 ≤ n ∧ n ≤ 50 := by simpa [idB] using h
theorem idB_no {r n : Int} (h : idB r n = false) : (¬ 0 ≤ r) ∨ (0 ≤ r ∧ ¬ r ≤ 4) ∨ (0 ≤ r ∧ r ≤ 4 ∧ ¬ 1 ≤ n) ∨ (0 ≤ r ∧ r ≤ 4 ∧ 1 ≤ n ∧ ¬ n ≤ 50) := by simp [idB] at h; omega

/-- valid of the program. -/
theorem ivid_any (r n : Int) (w : World) :
    Calls Try.prog 15 #[.agg #[.int .i64 r, .int .i64 n]] w fun e w' => e = .returned (.bool (idB r n)) ∧ Below w.heap.size w w' := by
  have rf := fun W => irf_any r W
  by_cases h1 : 0 ≤ r ∧ r ≤ 4
  · simp only [decide_eq_true h1] at rf
    by_cases h2 : 1 ≤ n
    · by_cases h3 : n ≤ 50
      · rw [idB_t h1.1 h1.2 h2 h3]
        clear h1
        go_enter Try.func15, Try.ntmps15
        go_wp2_with (go_at_call 27; (with_reducible refine (rf _).mono ?_); rintro e w' ⟨rfl, rfl⟩)
        go_ret
        exact ⟨rfl, (Below.refl _ _).alloc (Nat.le_refl _) _⟩
      · rw [idB_f (fun h => h3 h.2.2.2)]
        clear h1
        go_enter Try.func15, Try.ntmps15
        go_wp2_with (go_at_call 27; (with_reducible refine (rf _).mono ?_); rintro e w' ⟨rfl, rfl⟩)
        go_ret
        exact ⟨by first | rfl | simp [h3], (Below.refl _ _).alloc (Nat.le_refl _) _⟩
    · rw [idB_f (fun h => h2 h.2.2.1)]
      clear h1
      go_enter Try.func15, Try.ntmps15
      go_wp2_with (go_at_call 27; (with_reducible refine (rf _).mono ?_); rintro e w' ⟨rfl, rfl⟩)
      go_ret
      exact ⟨rfl, (Below.refl _ _).alloc (Nat.le_refl _) _⟩
  · simp only [decide_eq_false h1] at rf
    rw [idB_f (fun h => h1 ⟨h.1, h.2.1⟩)]
    clear h1
    go_enter Try.func15, Try.ntmps15
    go_wp2_with (go_at_call 27; (with_reducible refine (rf _).mono ?_); rintro e w' ⟨rfl, rfl⟩)
    go_ret
    exact ⟨rfl, (Below.refl _ _).alloc (Nat.le_refl _) _⟩

/-- IdValid of the model. -/
theorem svid_any (r n : Int) (w : World) :
    Calls Try.prog 19 #[.agg #[.int .i64 r, .int .i64 n]] w fun e w' => e = .returned (.bool (idB r n)) ∧ Below w.heap.size w w' := by
  have e1 : idB r n = (inB r 0 4 && inB n 1 50) := by
    rw [Bool.eq_iff_iff]; simp [idB, inB]; omega
  rw [e1]
  have s1 := in_any r 0 4
  have s2 := in_any n 1 50
  generalize inB r 0 4 = p at s1 ⊢
  generalize inB n 1 50 = q at s2 ⊢
  clear e1
  cases p
  · go_enter Try.func19, Try.ntmps19
    go_wp2_with (go_at_call 18; (with_reducible refine (s1 _).mono ?_); rintro e w' ⟨rfl, rfl⟩)
    go_ret
    exact ⟨rfl, (Below.refl _ _).alloc (Nat.le_refl _) _⟩
  · go_enter Try.func19, Try.ntmps19
    go_wp2_with (first | (go_at_call 18; (with_reducible refine (s1 _).mono ?_); rintro e w' ⟨rfl, rfl⟩) | (go_at_call 18; (with_reducible refine (s2 _).mono ?_); rintro e w' ⟨rfl, rfl⟩))
    go_ret
    exact ⟨by simp, (Below.refl _ _).alloc (Nat.le_refl _) _⟩

/-- What cmp.Compare answers of numbers. -/
def cmpN (a b : Int) : Int := if a < b then -1 else if b < a then 1 else 0
theorem cmpN_lt {a b : Int} (h : a < b) : cmpN a b = -1 := if_pos h
theorem cmpN_gt {a b : Int} (h : b < a) : cmpN a b = 1 := by unfold cmpN; rw [if_neg (by omega), if_pos h]
theorem cmpN_eq {a b : Int} (h : a = b) : cmpN a b = 0 := by unfold cmpN; rw [if_neg (by omega), if_neg (by omega)]
theorem nan_any (a : Int) (w : World) :
    Calls Try.prog 58 #[.int .i64 a] w fun e w' => e = .returned (.bool false) ∧ w = w' := by
  go_enter Try.func58, Try.ntmps58
  go_wp2_with fail
  go_ret
  exact ⟨by simp, rfl⟩
theorem cmpN_any (a b : Int) (w : World) :
    Calls Try.prog 57 #[.int .i64 a, .int .i64 b] w fun e w' => e = .returned (.int .i64 (cmpN a b)) ∧ w = w' := by
  rcases Int.lt_trichotomy a b with h | h | h
  · rw [cmpN_lt h]
    go_enter Try.func57, Try.ntmps57
    go_wp2_with (go_at_call 58; refine (nan_any _ _).mono ?_; rintro e w' ⟨rfl, rfl⟩)
    go_ret
    exact ⟨rfl, rfl⟩
  · subst h
    rw [cmpN_eq rfl]
    go_enter Try.func57, Try.ntmps57
    go_wp2_with (go_at_call 58; refine (nan_any _ _).mono ?_; rintro e w' ⟨rfl, rfl⟩)
    go_ret
    exact ⟨rfl, rfl⟩
  · rw [cmpN_gt h]
    have h' : ¬ a < b := by omega
    go_enter Try.func57, Try.ntmps57
    go_wp2_with (go_at_call 58; refine (nan_any _ _).mono ?_; rintro e w' ⟨rfl, rfl⟩)
    go_ret
    exact ⟨rfl, rfl⟩

/-- What cmp.Or answers of two. -/
def orN (x y : Int) : Int := if x = 0 then y else x
theorem orN_any (b : Nat) (x y : Int) (w : World) (h0 : w.cell? ⟨b, 0, none⟩ = some (.int .i64 x)) (h1 : w.cell? ⟨b, 1, none⟩ = some (.int .i64 y)) :
    Calls Try.prog 56 #[.slice (some ⟨b, 0, none⟩) 2 2] w fun e w' => e = .returned (.int .i64 (orN x y)) ∧ w = w' := by
  by_cases hx : x = 0
  · subst hx
    rw [show orN 0 y = y from rfl]
    by_cases hy : y = 0
    · subst hy
      go_enter Try.func56, Try.ntmps56
      go_wp2_with fail
      refine wp_loop_rounds 3 ?_
      rw [rounds_succ]
      go_wp2_with fail
      rw [rounds_succ]
      go_wp2_with fail
      rw [rounds_succ]
      go_wp2_with fail
      go_ret
      exact ⟨rfl, rfl⟩
    · have hy' : (y != 0) = true := by simpa using hy
      go_enter Try.func56, Try.ntmps56
      go_wp2_with fail
      refine wp_loop_rounds 3 ?_
      rw [rounds_succ]
      go_wp2_with fail
      rw [rounds_succ]
      go_wp2_with fail
      go_ret
      exact ⟨rfl, rfl⟩
  · rw [show orN x y = x from if_neg hx]
    have hx' : (x != 0) = true := by simpa using hx
    go_enter Try.func56, Try.ntmps56
    go_wp2_with fail
    refine wp_loop_rounds 1 ?_
    rw [rounds_succ]
    go_wp2_with fail
    go_ret
    exact ⟨rfl, rfl⟩

/-- What compare answers. -/
def cmpI (r n r' n' : Int) : Int := orN (cmpN r r') (cmpN n n')
theorem cmpN_neg {a b : Int} : cmpN a b < 0 ↔ a < b := by unfold cmpN; split <;> (try split) <;> omega
theorem cmpN_zero {a b : Int} : cmpN a b = 0 ↔ a = b := by unfold cmpN; split <;> (try split) <;> omega
theorem cmpI_neg (r n r' n' : Int) : decide (cmpI r n r' n' < 0) = ltB r n r' n' := by
  unfold cmpI orN ltB
  by_cases h : cmpN r r' = 0
  · rw [if_pos h]
    have := cmpN_zero.1 h
    rw [Bool.eq_iff_iff]; simp [cmpN_neg]; omega
  · rw [if_neg h]
    have h' : ¬ r = r' := fun e => h (cmpN_zero.2 e)
    rw [Bool.eq_iff_iff]; simp [cmpN_neg, h']
theorem cmpI_zero (r n r' n' : Int) : (cmpI r n r' n' = 0) ↔ (r = r' ∧ n = n') := by
  unfold cmpI orN
  by_cases h : cmpN r r' = 0
  · rw [if_pos h, cmpN_zero, cmpN_zero.1 h]; simp
  · rw [if_neg h]
    have h' : ¬ r = r' := fun e => h (cmpN_zero.2 e)
    simp [h, h']

theorem still_tail {P : Program} {id : Nat} {Q : Exit → Act → World → Prop} {a : Act} {w : World} {l : List Oper} (n : Nat) (hm : P.follows .mixedOrders = true) (hB : Region.lexTailB .any l.toArray n = true) (W : World) (hW : W = w.drew)
    (h : wpStill P l.toArray W (fun a' => wpList P l.toArray Q (l.drop n) a' W) (l.take n) a) : (Code.region id l.toArray true).wp P Q a w := by
  subst hW; exact wp_region_still_tail n hm hB h

set_option maxRecDepth 100000 in
set_option maxHeartbeats 1000000 in
theorem cmpI_any (r n r' n' : Int) (w : World) :
    Calls Try.prog 54 #[.agg #[.int .i64 r, .int .i64 n], .agg #[.int .i64 r', .int .i64 n']] w fun e w' => e = .returned (.int .i64 (cmpI r n r' n')) ∧ Below w.heap.size w w' := by
  have s1 := cmpN_any r r'
  have s2 := cmpN_any n n'
  unfold cmpI
  generalize cmpN r r' = x at s1 ⊢
  generalize cmpN n n' = y at s2 ⊢
  go_enter Try.func54, Try.ntmps54
  go_upto_region 1 with fail
  obtain ⟨W, hW⟩ : ∃ W, W = ((w.alloc (.cells #[.int .i64 r, .int .i64 n] 24)).alloc (.cells #[.int .i64 r', .int .i64 n'] 24)).drew := ⟨_, rfl⟩
  refine still_tail 10 (by kernel_rfl) (by kernel_rfl) W hW ?_
  simp only [List.take_succ_cons, List.take_zero, List.drop_succ_cons, List.drop_zero]
  have D : Hid (Below w.heap.size w W) := Lib.hid (by subst hW; exact (((Below.refl _ _).alloc (Nat.le_refl _) _).alloc (by simp) _).drew)
  have c0 : W.cell? ⟨w.heap.size, 0, none⟩ = some (.int .i64 r) := by subst hW; go_simp
  have c1 : W.cell? ⟨w.heap.size, 1, none⟩ = some (.int .i64 n) := by subst hW; go_simp
  have c2 : W.cell? ⟨w.heap.size + 1, 0, none⟩ = some (.int .i64 r') := by subst hW; go_simp
  have c3 : W.cell? ⟨w.heap.size + 1, 1, none⟩ = some (.int .i64 n') := by subst hW; go_simp
  clear hW
  iterate 4 still_step
  still_call ((s1 _).mono fun e w' h => ⟨h.1, h.2.symm⟩)
  iterate 4 still_step
  still_call ((s2 _).mono fun e w' h => ⟨h.1, h.2.symm⟩)
  refine wpStill_nil ?_
  go_wp2_with fail
  refine (orN_any _ x y _ (by go_simp) (by go_simp)).mono ?_
  rintro e w1 ⟨rfl, rfl⟩
  go_wp2_with fail
  go_ret
  exact ⟨rfl, D.out.alloc D.out.size _⟩
end Go.Proofs.Ytblkpkjgmjnimaa

/- l3Before of the model; boxes of a call with two ids. -/
namespace Go.Proofs.Ytblkpkjgmjnimaa
open Go.RowKit
set_option linter.unusedVariables false

/-- l3Before of the model. -/
theorem slt_any (r n r' n' : Int) (w : World) :
    Calls Try.prog 42 #[.agg #[.int .i64 r, .int .i64 n], .agg #[.int .i64 r', .int .i64 n']] w fun e w' => e = .returned (.bool (ltB r n r' n')) ∧ Below w.heap.size w w' := by
  rcases Int.lt_trichotomy r r' with h | rfl | h
  · have e1 : ltB r n r' n' = true := by simp [ltB]; omega
    rw [e1]; clear e1
    go_enter Try.func42, Try.ntmps42
    go_wp2_with fail
    go_ret
    exact ⟨rfl, ((Below.refl _ _).alloc (Nat.le_refl _) _).alloc (by simp) _⟩
  · have e1 : ltB r n r n' = decide (n < n') := by simp [ltB]
    rw [e1]; clear e1
    go_enter Try.func42, Try.ntmps42
    go_wp2_with fail
    go_ret
    exact ⟨by simp, ((Below.refl _ _).alloc (Nat.le_refl _) _).alloc (by simp) _⟩
  · have e1 : ltB r n r' n' = false := by simp [ltB]; omega
    rw [e1]; clear e1
    have h1 : ¬ r < r' := by omega
    have h2 : (r == r') = false := by simp; omega
    go_enter Try.func42, Try.ntmps42
    go_wp2_with fail
    go_ret
    exact ⟨rfl, ((Below.refl _ _).alloc (Nat.le_refl _) _).alloc (by simp) _⟩

/-- Two boxes of a call with two ids, behind callees that only make memory. -/
structure Two (w : World) (r n r' n' : Int) (w' : World) : Prop where
  a : w'.heap[w.heap.size]? = some (.cells #[.int .i64 r, .int .i64 n] 24 (0, 0))
  b : w'.heap[w.heap.size + 1]? = some (.cells #[.int .i64 r', .int .i64 n'] 24 (0, 0))
  z : w.heap.size + 2 ≤ w'.heap.size
  d : Below w.heap.size w w'

theorem Two.start (w : World) (r n r' n' : Int) : Two w r n r' n' ((w.alloc (.cells #[.int .i64 r, .int .i64 n] 24)).alloc (.cells #[.int .i64 r', .int .i64 n'] 24)) :=
  ⟨(Below.heap_alloc _ _ _ (by simp)).trans (heap_alloc_new w _), heap_alloc_at _ _ _ (by simp), by simp, ((Below.refl _ _).alloc (Nat.le_refl _) _).alloc (by simp) _⟩
theorem Two.up {w w1 w2 : World} {r n r' n' : Int} (h : Two w r n r' n' w1) (hb : Below w1.heap.size w1 w2) : Two w r n r' n' w2 :=
  ⟨(hb.block _ (by have := h.z; omega)).trans h.a, (hb.block _ (by have := h.z; omega)).trans h.b, Nat.le_trans h.z hb.size, h.d.trans (hb.mono (by have := h.z; omega))⟩
end Go.Proofs.Ytblkpkjgmjnimaa

/- slices.Index and slices.Contains at ids. -/
namespace Go.Proofs.Ytblkpkjgmjnimaa
open Go.RowKit
set_option linter.unusedVariables false

set_option maxRecDepth 100000 in
set_option maxHeartbeats 2000000 in
theorem idx_at (b off ca : Nat) (L : List Pid) (x y : Int) (w : World) (hb : b < w.heap.size) (hm : L.length ≤ 2000000) (h : ∀ i, i < L.length → w.cell? ⟨b, off + i * 2, none⟩ = some (.int .i64 (L.getD i nop).1) ∧ w.cell? ⟨b, off + i * 2 + 1, none⟩ = some (.int .i64 (L.getD i nop).2)) :
    Calls Try.prog 53 #[.slice (some ⟨b, off, none⟩) L.length ca, .agg #[.int .i64 x, .int .i64 y]] w fun e w' => (∃ z : Int, e = .returned (.int .i64 z) ∧ decide (0 ≤ z) = hasP L (x, y)) ∧ Below w.heap.size w w' := by
  have h := Lib.hid h
  obtain ⟨n, hn⟩ : ∃ n, Hid (L.length = n) := ⟨_, Lib.hid rfl⟩
  obtain ⟨q, hq⟩ : ∃ q, Hid (hasP L (x, y) = q) := ⟨_, Lib.hid rfl⟩
  rw [hn.out] at hm ⊢
  rw [hq.out]
  go_enter Try.func53, Try.ntmps53
  go_wp2_with fail
  go_loopw [8] (fun i wr => ∃ k : Nat, k ≤ n ∧ i = .int .i64 k ∧ Hid (∀ j, j < k → ¬ L.getD j nop = (x, y)) ∧ wr.cell? ⟨w.heap.size, 0, none⟩ = some (.int .i64 x) ∧ wr.cell? ⟨w.heap.size, 1, none⟩ = some (.int .i64 y) ∧ Below w.heap.size w wr) (fun i _ => n - (intOf i).toNat)
  case atStart => exact ⟨0, Nat.zero_le _, rfl, Lib.hid (fun j hj => absurd hj (Nat.not_lt_zero _)), by go_simp, by go_simp, (Below.refl _ _).alloc (Nat.le_refl _) _⟩
  case round =>
    obtain ⟨k, hk, rfl, hno, x0, x1, hnx⟩ := hrel
    by_cases hlt : k < n
    · obtain ⟨h0, h1⟩ := h.out k (by rw [hn.out]; exact hlt)
      have q0 := (hnx.cell (p := ⟨b, off + k * 2, none⟩) hb).trans h0
      have q1 := (hnx.cell (p := ⟨b, off + k * 2 + 1, none⟩) hb).trans h1
      clear h0 h1
      obtain ⟨c, hc⟩ : ∃ c, Hid (L.getD k nop = c) := ⟨_, Lib.hid rfl⟩
      rw [hc.out] at q0 q1
      obtain ⟨p, r⟩ := c
      dsimp only at q0 q1
      have hnx := Lib.hid hnx
      clear h
      by_cases e1 : p = x
      · subst e1
        by_cases e2 : r = y
        · subst e2
          have hqt := hq.out
          rw [has_t (by rw [hn.out]; exact hlt) hc.out] at hqt
          subst hqt
          go_wp2_with fail
          go_quiet (fail)
          go_wp2_with fail
          go_ret
          exact ⟨⟨_, rfl, by simp⟩, bdrewN hnx.out _⟩
        · have R := Lib.hid (up_to hno.out (show ¬ L.getD k nop = (p, y) by rw [hc.out]; intro e; exact e2 (congrArg Prod.snd e)))
          go_wp2_with fail
          go_quiet (fail)
          go_wp2_with fail
          go_roundw
          case rel => exact ⟨k + 1, by omega, by go_num, R, by go_simp, by go_simp, bdrewN hnx.out _⟩
          case measure => simp [intOf]; omega
      · have R := Lib.hid (up_to hno.out (show ¬ L.getD k nop = (x, y) by rw [hc.out]; intro e; exact e1 (congrArg Prod.fst e)))
        go_wp2_with fail
        go_quiet (fail)
        go_wp2_with fail
        go_roundw
        case rel => exact ⟨k + 1, by omega, by go_num, R, by go_simp, by go_simp, bdrewN hnx.out _⟩
        case measure => simp [intOf]; omega
    · obtain rfl : k = n := by omega
      have hqf := hq.out
      rw [has_f (fun j hj => hno.out j (by rw [← hn.out]; exact hj))] at hqf
      subst hqf
      have hnx := Lib.hid hnx
      clear h
      go_wp2_with fail
      go_ret
      exact ⟨⟨_, rfl, by simp⟩, hnx.out⟩

theorem idx_nil (a : Option Addr) (ca : Nat) (x y : Int) (w : World) :
    Calls Try.prog 53 #[.slice a 0 ca, .agg #[.int .i64 x, .int .i64 y]] w fun e w' => (∃ z : Int, e = .returned (.int .i64 z) ∧ decide (0 ≤ z) = hasP [] (x, y)) ∧ Below w.heap.size w w' := by
  rw [show hasP [] (x, y) = false from rfl]
  go_enter Try.func53, Try.ntmps53
  go_wp2_with fail
  refine wp_loop_rounds 1 ?_
  rw [rounds_succ]
  go_wp2_with fail
  go_ret
  exact ⟨⟨_, rfl, by simp⟩, (Below.refl _ _).alloc (Nat.le_refl _) _⟩

theorem idx_any (u : Value) (L : List Pid) (x y : Int) (w : World) (h : Ids w u L) :
    Calls Try.prog 53 #[u, .agg #[.int .i64 x, .int .i64 y]] w fun e w' => (∃ z : Int, e = .returned (.int .i64 z) ∧ decide (0 ≤ z) = hasP L (x, y)) ∧ Below w.heap.size w w' := by
  obtain ⟨a, cap, rfl, h1, h2, h3⟩ := h
  rcases h3 with h3 | ⟨b, off, rfl, h4, h5⟩
  · obtain rfl : L = [] := List.length_eq_zero_iff.1 h3
    exact idx_nil a cap x y w
  · exact idx_at b off cap L x y w h4 h2 h5

theorem cont_any (u : Value) (L : List Pid) (x y : Int) (w : World) (h : Ids w u L) :
    Calls Try.prog 50 #[u, .agg #[.int .i64 x, .int .i64 y]] w fun e w' => e = .returned (.bool (hasP L (x, y))) ∧ Below w.heap.size w w' := by
  have h := Lib.hid h
  obtain ⟨q, hq⟩ : ∃ q, Hid (hasP L (x, y) = q) := ⟨_, Lib.hid rfl⟩
  rw [hq.out]
  go_enter Try.func50, Try.ntmps50
  go_wp2_with fail
  refine (idx_any u L x y _ (h.out.up ((Below.refl _ _).alloc (Nat.le_refl _) _) (Nat.le_refl _))).mono ?_
  rintro e w1 ⟨⟨z, rfl, hz⟩, hb⟩
  have D := Lib.hid (((Below.refl w.heap.size w).alloc (Nat.le_refl _) _).trans (hb.mono (by simp)))
  rw [hq.out] at hz
  clear hb hq h
  go_wp2_with fail
  go_ret
  exact ⟨rfl, D.out⟩
end Go.Proofs.Ytblkpkjgmjnimaa

/- The program's add: an id is put into a set in memory. -/
namespace Go.Proofs.Ytblkpkjgmjnimaa
open Go.RowKit
set_option linter.unusedVariables false

theorem one_shl (n : Nat) (h : n < 64) : IntKind.u64.wrap ((1 : Int) * 2 ^ n) = ((2 ^ n : Nat) : Int) := by
  have h2 : 2 ^ n < 2 ^ 64 := Nat.pow_lt_pow_right (by decide) h
  have e : ((1 : Int) * 2 ^ n) = ((2 ^ n : Nat) : Int) := by rw [Int.one_mul]; exact (Int.natCast_pow 2 n).symm
  rw [IntKind.wrap_u64, e]
  generalize 2 ^ n = m at h2 ⊢
  omega

set_option maxRecDepth 100000 in
set_option maxHeartbeats 1000000 in
/-- A bit is set in the cell of the replica. -/
theorem add_at (b o pr nr m : Nat) (w : World) (hp : pr < 5) (hq : nr ≤ 50) (hb : b < w.heap.size) (c0 : w.cell? ⟨b, o + pr, none⟩ = some (.int .u64 m)) (f0 : w.frozen? ⟨b, o + pr, none⟩ = false) (hm : m < 2251799813685248) :
    Calls Try.prog 55 #[.pointer (some ⟨b, o, none⟩), .agg #[.int .i64 pr, .int .i64 nr]] w fun e w' =>
      e = .returned (.tuple #[]) ∧ ∃ w1, Below w.heap.size w w1 ∧ w' = w1.setCell ⟨b, o + pr, none⟩ (.int .u64 ((m ||| 2 ^ nr : Nat) : Int)) := by
  have ep : ((2 ^ nr : Nat) : Int) = (2 : Int) ^ nr := Int.natCast_pow 2 nr
  have sh : IntKind.u64.wrap ((2 : Int) ^ nr) = (2 : Int) ^ nr := by have := one_shl nr (by omega); rw [Int.one_mul, ep] at this; exact this
  have hp2 : 2 ^ nr < 2 ^ 64 := Nat.pow_lt_pow_right (by decide) (by omega)
  have ob : bits .or .u64 (m : Int) ((2 : Int) ^ nr) = ((m ||| 2 ^ nr : Nat) : Int) := by rw [← ep]; exact bits_or_u64_nat m (2 ^ nr) (by omega) hp2
  have D := Lib.hid ((Below.refl w.heap.size w).alloc (Nat.le_refl _) (.cells #[.int .i64 pr, .int .i64 nr] 24))
  have q0 := (D.out.cell (p := ⟨b, o + pr, none⟩) hb).trans c0
  have q1 := (D.out.frozen (p := ⟨b, o + pr, none⟩) hb).trans f0
  generalize m ||| 2 ^ nr = y at ob ⊢
  clear hp2 ep c0 f0 hm
  go_enter Try.func55, Try.ntmps55
  go_wp2_with fail
  go_region
  go_wp2_with fail
  all_goals
    go_end0
    refine ⟨rfl, _, D.out.drew, ?_⟩
    rw [World.setCell_drew, World.setCell_alloc_past _ _ _ _ hb]
end Go.Proofs.Ytblkpkjgmjnimaa
