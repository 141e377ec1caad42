/- Texts laid together. -/
import Derived.Test.YtfcjhojkfchccaaC01
import Derived.Deep.RegionHeld3
import Derived.Deep.RegionWith
import Derived.StillTailTactics
import Derived.Laws.Bits64b
import Derived.Laws.NewBlocks
/- Contracts of the functions on ids: valid, compare, IdBefore, of the program and of the model. -/
namespace Go.Proofs.Ytfcjhojkfchccaa
open Go.RowKit
set_option linter.unusedVariables false

theorem idB_t {r n : Int} (h1 : 0 ≤ r) (h2 : r ≤ 4) (h3 : 1 ≤ n) (h4 : n ≤ 50) : idB r n = true := by simp [idB]; omega
theorem idB_f {r n : Int} (h : ¬ (0 ≤ r ∧ r ≤ 4 ∧ 1 ≤ n ∧ n ≤ 50)) : idB r n = false := by simp [idB]; omega
theorem idB_of {r n : Int} (h : idB r n = true) : 0 ≤ r ∧ r ≤ 4 ∧ 1 ≤ n ∧ n ≤ 50 := by simpa [idB] using h
theorem idB_no {r n : Int} (h : idB r n = false) : (¬ 0 ≤ r) ∨ (0 ≤ r ∧ ¬ r ≤ 4) ∨ (0 ≤ r ∧ r ≤ 4 ∧ ¬ 1 ≤ n) ∨ (0 ≤ r ∧ r ≤ 4 ∧ 1 ≤ n ∧ ¬ n ≤ 50) := by simp [idB] at h; omega

/-- valid of the program. -/
theorem ivid_any (r n : Int) (w : World) :
    Calls Try.prog 51 #[.agg #[.int .i64 r, .int .i64 n]] w fun e w' => e = .returned (.bool (idB r n)) ∧ Below w.heap.size w w' := by
  have rf := fun W => irf_any r W
  by_cases h1 : 0 ≤ r ∧ r ≤ 4
  · simp only [decide_eq_true h1] at rf
    by_cases h2 : 1 ≤ n
    · by_cases h3 : n ≤ 50
      · rw [idB_t h1.1 h1.2 h2 h3]
        clear h1
        go_enter Try.func51, Try.ntmps51
        go_wp2_with (go_at_call 58; (with_reducible refine (rf _).mono ?_); rintro e w' ⟨rfl, rfl⟩)
        go_ret
        exact ⟨rfl, (Below.refl _ _).alloc (Nat.le_refl _) _⟩
      · rw [idB_f (fun h => h3 h.2.2.2)]
        clear h1
        go_enter Try.func51, Try.ntmps51
        go_wp2_with (go_at_call 58; (with_reducible refine (rf _).mono ?_); rintro e w' ⟨rfl, rfl⟩)
        go_ret
        exact ⟨by first | rfl | simp [h3], (Below.refl _ _).alloc (Nat.le_refl _) _⟩
    · rw [idB_f (fun h => h2 h.2.2.1)]
      clear h1
      go_enter Try.func51, Try.ntmps51
      go_wp2_with (go_at_call 58; (with_reducible refine (rf _).mono ?_); rintro e w' ⟨rfl, rfl⟩)
      go_ret
      exact ⟨rfl, (Below.refl _ _).alloc (Nat.le_refl _) _⟩
  · simp only [decide_eq_false h1] at rf
    rw [idB_f (fun h => h1 ⟨h.1, h.2.1⟩)]
    clear h1
    go_enter Try.func51, Try.ntmps51
    go_wp2_with (go_at_call 58; (with_reducible refine (rf _).mono ?_); rintro e w' ⟨rfl, rfl⟩)
    go_ret
    exact ⟨rfl, (Below.refl _ _).alloc (Nat.le_refl _) _⟩

/-- IdValid of the model. -/
theorem svid_any (r n : Int) (w : World) :
    Calls Try.prog 48 #[.agg #[.int .i64 r, .int .i64 n]] w fun e w' => e = .returned (.bool (idB r n)) ∧ Below w.heap.size w w' := by
  have e1 : idB r n = (inB r 0 4 && inB n 1 50) := by
    rw [Bool.eq_iff_iff]; simp [idB, inB]; omega
  rw [e1]
  have s1 := in_any r 0 4
  have s2 := in_any n 1 50
  generalize inB r 0 4 = p at s1 ⊢
  generalize inB n 1 50 = q at s2 ⊢
  clear e1
  cases p
  · go_enter Try.func48, Try.ntmps48
    go_wp2_with (go_at_call 24; (with_reducible refine (s1 _).mono ?_); rintro e w' ⟨rfl, rfl⟩)
    go_ret
    exact ⟨rfl, (Below.refl _ _).alloc (Nat.le_refl _) _⟩
  · go_enter Try.func48, Try.ntmps48
    go_wp2_with (first | (go_at_call 24; (with_reducible refine (s1 _).mono ?_); rintro e w' ⟨rfl, rfl⟩) | (go_at_call 24; (with_reducible refine (s2 _).mono ?_); rintro e w' ⟨rfl, rfl⟩))
    go_ret
    exact ⟨by simp, (Below.refl _ _).alloc (Nat.le_refl _) _⟩

/-- What cmp.Compare answers of numbers. -/
def cmpN (a b : Int) : Int := if a < b then -1 else if b < a then 1 else 0
theorem cmpN_lt {a b : Int} (h : a < b) : cmpN a b = -1 := if_pos h
theorem cmpN_gt {a b : Int} (h : b < a) : cmpN a b = 1 := by unfold cmpN; rw [if_neg (by omega), if_pos h]
theorem cmpN_eq {a b : Int} (h : a = b) : cmpN a b = 0 := by unfold cmpN; rw [if_neg (by omega), if_neg (by omega)]
theorem nan_any (a : Int) (w : World) :
    Calls Try.prog 64 #[.int .i64 a] w fun e w' => e = .returned (.bool false) ∧ w = w' := by
  go_enter Try.func64, Try.ntmps64
  go_wp2_with fail
  go_ret
  exact ⟨by simp, rfl⟩
theorem cmpN_any (a b : Int) (w : World) :
    Calls Try.prog 60 #[.int .i64 a, .int .i64 b] w fun e w' => e = .returned (.int .i64 (cmpN a b)) ∧ w = w' := by
  rcases Int.lt_trichotomy a b with h | h | h
  · rw [cmpN_lt h]
    go_enter Try.func60, Try.ntmps60
    go_wp2_with (go_at_call 64; refine (nan_any _ _).mono ?_; rintro e w' ⟨rfl, rfl⟩)
    go_ret
    exact ⟨rfl, rfl⟩
  · subst h
    rw [cmpN_eq rfl]
    go_enter Try.func60, Try.ntmps60
    go_wp2_with (go_at_call 64; refine (nan_any _ _).mono ?_; rintro e w' ⟨rfl, rfl⟩)
    go_ret
    exact ⟨rfl, rfl⟩
  · rw [cmpN_gt h]
    have h' : ¬ a < b := by omega
    go_enter Try.func60, Try.ntmps60
    go_wp2_with (go_at_call 64; refine (nan_any _ _).mono ?_; rintro e w' ⟨rfl, rfl⟩)
    go_ret
    exact ⟨rfl, rfl⟩

/-- What cmp.Or answers of two. -/
def orN (x y : Int) : Int := if x = 0 then y else x
theorem orN_any (b : Nat) (x y : Int) (w : World) (h0 : w.cell? ⟨b, 0, none⟩ = some (.int .i64 x)) (h1 : w.cell? ⟨b, 1, none⟩ = some (.int .i64 y)) :
    Calls Try.prog 59 #[.slice (some ⟨b, 0, none⟩) 2 2] w fun e w' => e = .returned (.int .i64 (orN x y)) ∧ w = w' := by
  by_cases hx : x = 0
  · subst hx
    rw [show orN 0 y = y from rfl]
    by_cases hy : y = 0
    · subst hy
      go_enter Try.func59, Try.ntmps59
      go_wp2_with fail
      refine wp_loop_rounds 3 ?_
      rw [rounds_succ]
      go_wp2_with fail
      rw [rounds_succ]
      go_wp2_with fail
      rw [rounds_succ]
      go_wp2_with fail
      go_ret
      exact ⟨rfl, rfl⟩
    · have hy' : (y != 0) = true := by simpa using hy
      go_enter Try.func59, Try.ntmps59
      go_wp2_with fail
      refine wp_loop_rounds 3 ?_
      rw [rounds_succ]
      go_wp2_with fail
      rw [rounds_succ]
      go_wp2_with fail
      go_ret
      exact ⟨rfl, rfl⟩
  · rw [show orN x y = x from if_neg hx]
    have hx' : (x != 0) = true := by simpa using hx
    go_enter Try.func59, Try.ntmps59
    go_wp2_with fail
    refine wp_loop_rounds 1 ?_
    rw [rounds_succ]
    go_wp2_with fail
    go_ret
    exact ⟨rfl, rfl⟩

/-- What compare answers. -/
def cmpI (r n r' n' : Int) : Int := orN (cmpN r r') (cmpN n n')
theorem cmpN_neg {a b : Int} : cmpN a b < 0 ↔ a < b := by unfold cmpN; split <;> (try split) <;> omega
theorem cmpN_zero {a b : Int} : cmpN a b = 0 ↔ a = b := by unfold cmpN; split <;> (try split) <;> omega
theorem cmpI_neg (r n r' n' : Int) : decide (cmpI r n r' n' < 0) = ltB r n r' n' := by
  unfold cmpI orN ltB
  by_cases h : cmpN r r' = 0
  · rw [if_pos h]
    have := cmpN_zero.1 h
    rw [Bool.eq_iff_iff]; simp [cmpN_neg]; omega
  · rw [if_neg h]
    have h' : ¬ r = r' := fun e => h (cmpN_zero.2 e)
    rw [Bool.eq_iff_iff]; simp [cmpN_neg, h']
theorem cmpI_zero (r n r' n' : Int) : (cmpI r n r' n' = 0) ↔ (r = r' ∧ n = n') := by
  unfold cmpI orN
  by_cases h : cmpN r r' = 0
  · rw [if_pos h, cmpN_zero, cmpN_zero.1 h]; simp
  · rw [if_neg h]
    have h' : ¬ r = r' := fun e => h (cmpN_zero.2 e)
    simp [h, h']

theorem still_tail {P : Program} {id : Nat} {Q : Exit → Act → World → Prop} {a : Act} {w : World} {l : List Oper} (n : Nat) (hm : P.follows .mixedOrders = true) (hB : Region.lexTailB .any l.toArray n = true) (W : World) (hW : W = w.drew)
    (h : wpStill P l.toArray W (fun a' => wpList P l.toArray Q (l.drop n) a' W) (l.take n) a) : (Code.region id l.toArray true).wp P Q a w := by
  subst hW; exact wp_region_still_tail n hm hB h

set_option maxRecDepth 100000 in
set_option maxHeartbeats 1000000 in
theorem cmpI_any (r n r' n' : Int) (w : World) :
    Calls Try.prog 52 #[.agg #[.int .i64 r, .int .i64 n], .agg #[.int .i64 r', .int .i64 n']] w fun e w' => e = .returned (.int .i64 (cmpI r n r' n')) ∧ Below w.heap.size w w' := by
  have s1 := cmpN_any r r'
  have s2 := cmpN_any n n'
  unfold cmpI
  generalize cmpN r r' = x at s1 ⊢
  generalize cmpN n n' = y at s2 ⊢
  go_enter Try.func52, Try.ntmps52
  go_upto_region 1 with fail
  obtain ⟨W, hW⟩ : ∃ W, W = ((w.alloc (.cells #[.int .i64 r, .int .i64 n] 24)).alloc (.cells #[.int .i64 r', .int .i64 n'] 24)).drew := ⟨_, rfl⟩
  refine still_tail 10 (by kernel_rfl) (by kernel_rfl) W hW ?_
  simp only [List.take_succ_cons, List.take_zero, List.drop_succ_cons, List.drop_zero]
  have D : Hid (Below w.heap.size w W) := Lib.hid (by subst hW; exact (((Below.refl _ _).alloc (Nat.le_refl _) _).alloc (by simp) _).drew)
  have c0 : W.cell? ⟨w.heap.size, 0, none⟩ = some (.int .i64 r) := by subst hW; go_simp
  have c1 : W.cell? ⟨w.heap.size, 1, none⟩ = some (.int .i64 n) := by subst hW; go_simp
  have c2 : W.cell? ⟨w.heap.size + 1, 0, none⟩ = some (.int .i64 r') := by subst hW; go_simp
  have c3 : W.cell? ⟨w.heap.size + 1, 1, none⟩ = some (.int .i64 n') := by subst hW; go_simp
  clear hW
  iterate 4 still_step
  still_call ((s1 _).mono fun e w' h => ⟨h.1, h.2.symm⟩)
  iterate 4 still_step
  still_call ((s2 _).mono fun e w' h => ⟨h.1, h.2.symm⟩)
  refine wpStill_nil ?_
  go_wp2_with fail
  refine (orN_any _ x y _ (by go_simp) (by go_simp)).mono ?_
  rintro e w1 ⟨rfl, rfl⟩
  go_wp2_with fail
  go_ret
  exact ⟨rfl, D.out.alloc D.out.size _⟩
end Go.Proofs.Ytfcjhojkfchccaa

/- l3Before of the model; boxes of a call with two ids. -/
namespace Go.Proofs.Ytfcjhojkfchccaa
open Go.RowKit
set_option linter.unusedVariables false

/-- l3Before of the model. -/
theorem slt_any (r n r' n' : Int) (w : World) :
    Calls Try.prog 45 #[.agg #[.int .i64 r, .int .i64 n], .agg #[.int .i64 r', .int .i64 n']] w fun e w' => e = .returned (.bool (ltB r n r' n')) ∧ Below w.heap.size w w' := by
  rcases Int.lt_trichotomy r r' with h | rfl | h
  · have e1 : ltB r n r' n' = true := by simp [ltB]; omega
    rw [e1]; clear e1
    go_enter Try.func45, Try.ntmps45
    go_wp2_with fail
    go_ret
    exact ⟨rfl, ((Below.refl _ _).alloc (Nat.le_refl _) _).alloc (by simp) _⟩
  · have e1 : ltB r n r n' = decide (n < n') := by simp [ltB]
    rw [e1]; clear e1
    go_enter Try.func45, Try.ntmps45
    go_wp2_with fail
    go_ret
    exact ⟨by simp, ((Below.refl _ _).alloc (Nat.le_refl _) _).alloc (by simp) _⟩
  · have e1 : ltB r n r' n' = false := by simp [ltB]; omega
    rw [e1]; clear e1
    have h1 : ¬ r < r' := by omega
    have h2 : (r == r') = false := by simp; omega
    go_enter Try.func45, Try.ntmps45
    go_wp2_with fail
    go_ret
    exact ⟨rfl, ((Below.refl _ _).alloc (Nat.le_refl _) _).alloc (by simp) _⟩

/-- Two boxes of a call with two ids, behind callees that only make memory. -/
structure Two (w : World) (r n r' n' : Int) (w' : World) : Prop where
  a : w'.heap[w.heap.size]? = some (.cells #[.int .i64 r, .int .i64 n] 24 (0, 0))
  b : w'.heap[w.heap.size + 1]? = some (.cells #[.int .i64 r', .int .i64 n'] 24 (0, 0))
  z : w.heap.size + 2 ≤ w'.heap.size
  d : Below w.heap.size w w'

theorem Two.start (w : World) (r n r' n' : Int) : Two w r n r' n' ((w.alloc (.cells #[.int .i64 r, .int .i64 n] 24)).alloc (.cells #[.int .i64 r', .int .i64 n'] 24)) :=
  ⟨(Below.heap_alloc _ _ _ (by simp)).trans (heap_alloc_new w _), heap_alloc_at _ _ _ (by simp), by simp, ((Below.refl _ _).alloc (Nat.le_refl _) _).alloc (by simp) _⟩
theorem Two.up {w w1 w2 : World} {r n r' n' : Int} (h : Two w r n r' n' w1) (hb : Below w1.heap.size w1 w2) : Two w r n r' n' w2 :=
  ⟨(hb.block _ (by have := h.z; omega)).trans h.a, (hb.block _ (by have := h.z; omega)).trans h.b, Nat.le_trans h.z hb.size, h.d.trans (hb.mono (by have := h.z; omega))⟩
end Go.Proofs.Ytfcjhojkfchccaa

/- The model's l3Put. -/
namespace Go.Proofs.Ytfcjhojkfchccaa
open Go.RowKit
set_option linter.unusedVariables false

theorem infoP : (Try.prog.info? 24).map (fun i => (i.zero, i.size, i.bytes)) = some (some (.agg #[.int .i64 0, .int .i64 0]), 2, 16) := by kernel_rfl

/-- A slice of ids that is being built: in memory from B on, in a block of its own. -/
def Row (w : World) (B : Nat) (v : Value) (O : List Pid) : Prop := w.ownsRow B 24 2 v O.length (flatP O) ∧ v ≠ .slice none 0 0

theorem row_new (w : World) (B : Nat) (hB : B ≤ w.heap.size) : Row (w.alloc (.cells #[] 24)) B (.slice (some ⟨w.heap.size, 0, none⟩) 0 0) [] :=
  ⟨World.ownsRow_made _ #[] 0 hB (Nat.zero_le _) rfl, by simp⟩
theorem Row.shape {w : World} {B : Nat} {v : Value} {O : List Pid} (h : Row w B v O) : ∃ g cap, v = .slice (some ⟨g, 0, none⟩) O.length cap ∧ B ≤ g ∧ g < w.heap.size ∧ O.length ≤ cap ∧ cap ≤ maxLen := by
  rcases h.1.2 with ⟨rfl, _⟩ | ⟨g, cap, cur, rfl, h1, h2, h3, h4, h5, h6⟩
  · exact absurd rfl h.2
  · exact ⟨g, cap, rfl, h1, lt_of_heap h2, h3, h4⟩
theorem Row.own {w : World} {B : Nat} {v : Value} {O : List Pid} (h : Row w B v O) (hl : O.length ≤ 2000000) : ∃ b, B ≤ b ∧ OwnP w b v O := OwnP.of_row h.1 rfl hl h.2
/-- Other memory may turn. -/
theorem Row.up {w w' : World} {B : Nat} {v : Value} {O : List Pid} (h : Row w B v O) (hb : Below w.heap.size w w') : Row w' B v O := by
  refine ⟨?_, h.2⟩
  refine ⟨h.1.1, ?_⟩
  rcases h.1.2 with h1 | ⟨g, cap, cur, e, h1, h2, h3⟩
  · exact .inl h1
  · exact .inr ⟨g, cap, cur, e, h1, (hb.block g (lt_of_heap h2)).trans h2, h3⟩
theorem Row.put {w w' : World} {B : Nat} {v v' : Value} {O : List Pid} {x y : Int} (h : Row w B v O) (hown : w'.ownsRow B 24 2 v' (O.length + 1) (flatP O ++ [.int .i64 x, .int .i64 y])) (hn : v' ≠ .slice none 0 0) : Row w' B v' (O ++ [(x, y)]) :=
  ⟨by rw [flatP_app]; simpa [flatP, idv] using hown, hn⟩
/-- What an append leaves of elder memory. -/
theorem grown_below {w w' : World} {B : Nat} {v : Value} {O : List Pid} (h : Row w B v O) (hg : w.grownBy w' (Value.ownBlock v)) (hB : B ≤ w.heap.size) : Below B w w' := by
  obtain ⟨g, cap, rfl, h1, _⟩ := h.shape
  exact ⟨hg.os, hg.tape, hg.output, hg.size, fun k hk => hg.block k (by omega) (fun e => by simp [Value.ownBlock] at e; omega)⟩

/-- What is left of l3Put's loop. -/
theorem put_in {O L : List Pid} {a x : Pid} {k : Nat} (hk : k < L.length) (hx : L.getD k nop = x) (h : O ++ putF true a (L.drop k) = putP L a) : (O ++ [x]) ++ putF true a (L.drop (k + 1)) = putP L a := by
  rw [← h, drop_next hk, hx]; simp [putF]
theorem put_miss {O L : List Pid} {a x : Pid} {k : Nat} (hk : k < L.length) (hx : L.getD k nop = x) (hl : ltP a x = false) (h : O ++ putF false a (L.drop k) = putP L a) : (O ++ [x]) ++ putF false a (L.drop (k + 1)) = putP L a := by
  rw [← h, drop_next hk, hx, putF_miss hl]; simp
theorem put_hit {O L : List Pid} {a x : Pid} {k : Nat} (hk : k < L.length) (hx : L.getD k nop = x) (hl : ltP a x = true) (h : O ++ putF false a (L.drop k) = putP L a) : (O ++ [a] ++ [x]) ++ putF true a (L.drop (k + 1)) = putP L a := by
  rw [← h, drop_next hk, hx, putF_hit hl]; simp
theorem put_len {O L : List Pid} {a : Pid} {d : Bool} {k : Nat} (h : O ++ putF d a (L.drop k) = putP L a) : O.length ≤ L.length + 1 := by
  have := congrArg List.length h
  rw [List.length_append] at this
  have := (len_putP L a).2
  omega

theorem two_cells (w : World) (t : TypeId) (x y : Value) (n : Nat) (hn : n = w.heap.size) : ∀ j u, [x, y][j]? = some u → (w.alloc (.cells #[x, y] t)).cell? ((⟨n, 0, none⟩ : Addr).add j) = some u := by
  subst hn
  intro j u hj
  match j, hj with
  | 0, hj => simp at hj; subst hj; simp [Addr.add]
  | 1, hj => simp at hj; subst hj; simp [Addr.add]
  | j + 2, hj => simp at hj

theorem put_mid {w wc w4 : World} {v v' : Value} {O : List Pid} {x y p r : Int} {o : Obj} (D : Below w.heap.size w wc) (hA : wc.heap[w.heap.size]? = some (.cells #[.int .i64 x, .int .i64 y] 24 (0, 0))) (hR : Row wc (w.heap.size + 1) v O)
    (hown : w4.ownsRow (w.heap.size + 1) 24 2 v' (O.length + 1) (flatP O ++ [.int .i64 p, .int .i64 r])) (hg : (wc.alloc o).grownBy w4 (Value.ownBlock v)) (hn : v' ≠ .slice none 0 0) :
    Row w4 (w.heap.size + 1) v' (O ++ [(p, r)]) ∧ w4.heap[w.heap.size]? = some (.cells #[.int .i64 x, .int .i64 y] 24 (0, 0)) ∧ Below w.heap.size w w4 := by
  have hR1 : Row (wc.alloc o) (w.heap.size + 1) v O := hR.up ((Below.refl _ _).alloc (Nat.le_refl _) _)
  have hs := lt_of_heap hA
  have B4 := grown_below hR1 hg (by simp; omega)
  exact ⟨hR.put hown hn, (B4.block w.heap.size (by omega)).trans ((Below.heap_alloc _ _ _ hs).trans hA), (D.alloc D.size _).trans (B4.mono (by omega))⟩

/-- What l3Put leaves. -/
def PutPost (L : List Pid) (a : Pid) (w : World) (e : Ending) (w' : World) : Prop :=
  ∃ b u, w.heap.size ≤ b ∧ e = .returned u ∧ OwnP w' b u (putP L a) ∧ Below w.heap.size w w'

/-- The loop's relation: the box of the id lies at w's end. -/
def PutRel (L : List Pid) (x y : Int) (w : World) (k : Nat) (v : Value) (d : Bool) (wr : World) : Prop :=
  ∃ O : List Pid, Row wr (w.heap.size + 1) v O ∧ O ++ putF d (x, y) (L.drop k) = putP L (x, y) ∧ wr.heap[w.heap.size]? = some (.cells #[.int .i64 x, .int .i64 y] 24 (0, 0)) ∧ Below w.heap.size w wr

set_option maxRecDepth 100000 in
set_option maxHeartbeats 4000000 in
theorem sput_at (b off ca : Nat) (L : List Pid) (x y : Int) (w : World) (hb : b < w.heap.size) (hm : L.length ≤ 1900000) (h : ∀ i, i < L.length → w.cell? ⟨b, off + i * 2, none⟩ = some (.int .i64 (L.getD i nop).1) ∧ w.cell? ⟨b, off + i * 2 + 1, none⟩ = some (.int .i64 (L.getD i nop).2)) :
    Calls Try.prog 38 #[.slice (some ⟨b, off, none⟩) L.length ca, .agg #[.int .i64 x, .int .i64 y]] w (PutPost L (x, y) w) := by
  obtain ⟨i0, hi, hz0, hz1, hz2⟩ := info_parts infoP
  have sh := shas_at b off ca L x y
  have h := Lib.hid h
  obtain ⟨n, hn⟩ : ∃ n, Hid (L.length = n) := ⟨_, Lib.hid rfl⟩
  obtain ⟨d0, hd0⟩ : ∃ q, Hid (hasP L (x, y) = q) := ⟨_, Lib.hid rfl⟩
  rw [hn.out] at hm sh ⊢
  rw [hd0.out] at sh
  have R0 : Hid (Row ((w.alloc (.cells #[.int .i64 x, .int .i64 y] 24)).alloc (.cells #[] 24)) (w.heap.size + 1) (.slice (some ⟨w.heap.size + 1, 0, none⟩) 0 0) []) := Lib.hid (by have := row_new (w.alloc (.cells #[.int .i64 x, .int .i64 y] 24)) (w.heap.size + 1) (by simp); simpa using this)
  go_enter Try.func38, Try.ntmps38
  go_wp2_with fail
  refine (sh _ (by simp; omega) (by omega) (fun i hi' => ?_)).mono ?_
  · have D0 : Below w.heap.size w ((w.alloc (.cells #[.int .i64 x, .int .i64 y] 24)).alloc (.cells #[] 24)) := ((Below.refl _ _).alloc (Nat.le_refl _) _).alloc (by simp) _
    rw [D0.cell (p := ⟨b, off + i * 2, none⟩) hb, D0.cell (p := ⟨b, off + i * 2 + 1, none⟩) hb]
    exact h.out i (by rw [hn.out]; exact hi')
  rintro e w1 ⟨rfl, hb1⟩
  have R1 : Hid (PutRel L x y w 0 (.slice (some ⟨w.heap.size + 1, 0, none⟩) 0 0) d0 w1) := Lib.hid ⟨[], R0.out.up hb1, by rw [← hd0.out]; rfl, (hb1.block w.heap.size (by simp; omega)).trans ((Below.heap_alloc _ _ _ (by simp)).trans (heap_alloc_new w _)), (((Below.refl _ _).alloc (Nat.le_refl _) _).alloc (by simp) _).trans (hb1.mono (by simp; omega))⟩
  clear R0 hb1 sh hd0
  go_wp2_with fail
  go_loopw [5, 6, 7] (fun v d i wr => ∃ (k : Nat) (q : Bool), k ≤ n ∧ i = .int .i64 k ∧ d = .bool q ∧ PutRel L x y w k v q wr) (fun _ _ i _ => n - (intOf i).toNat)
  case atStart => exact ⟨0, d0, Nat.zero_le _, rfl, rfl, R1.out⟩
  case round =>
    obtain ⟨k, q, hk, rfl, rfl, O, hR, hE, hA, hnx⟩ := hrel
    clear R1
    have hOl := put_len hE
    rw [hn.out] at hOl
    have hR := Lib.hid hR
    have hE := Lib.hid hE
    obtain ⟨x0, x1, _, _⟩ := blk2 hA
    have hs := lt_of_heap hA
    have hA := Lib.hid hA
    by_cases hlt : k < n
    · obtain ⟨h0, h1⟩ := h.out k (by rw [hn.out]; exact hlt)
      have q0 := (hnx.cell (p := ⟨b, off + k * 2, none⟩) hb).trans h0
      have q1 := (hnx.cell (p := ⟨b, off + k * 2 + 1, none⟩) hb).trans h1
      clear h0 h1
      obtain ⟨c, hc⟩ : ∃ c, Hid (L.getD k nop = c) := ⟨_, Lib.hid rfl⟩
      rw [hc.out] at q0 q1
      obtain ⟨p, r⟩ := c
      dsimp only at q0 q1
      have hnx := Lib.hid hnx
      have q00 := Lib.hid (h.out k (by rw [hn.out]; exact hlt)).1
      have q01 := Lib.hid (h.out k (by rw [hn.out]; exact hlt)).2
      rw [hc.out] at q00 q01
      cases q
      · by_cases hlt2 : ltB x y p r = true
        · have sl := slt_any x y p r
          rw [hlt2] at sl
          have F := Lib.hid (put_hit (by rw [hn.out]; exact hlt) hc.out (show ltP (x, y) (p, r) = true from hlt2) hE.out)
          clear hlt2 h
          go_wp2_with fail
          go_region_with (go_at_call 45; (with_reducible refine (sl _).mono ?_); rintro e w2 ⟨rfl, B⟩; have D2 := Lib.hid (bstep (Below.drew hnx.out) B); have A2 := Lib.hid ((Below.block B _ hs).trans (show wr.drew.heap[w.heap.size]? = _ from hA.out)); have R2 := Lib.hid ((Row.up hR.out (Below.drew (Below.refl _ _))).up B); obtain ⟨x0, x1, _, _⟩ := blk2 A2.out; have q0 := cell_later B (show wr.drew.cell? _ = _ from q0); have q1 := cell_later B (show wr.drew.cell? _ = _ from q1); have hs := lt_of_heap A2.out; have sz := Below.size B; clear B hA hR hnx)
          all_goals
            go_wp2_with (at_builtin; refine wpList_append_own _ rfl _ _ 27 rfl (w.heap.size + 1) 24 i0 (.agg #[.int .i64 0, .int .i64 0]) 2 16 Try.underlying27 hi hz0 hz1 hz2 rfl (by decide) _ _ _ rfl (R2.out.1.alloc _) ⟨w2.heap.size, 0, none⟩ 1 1 [.int .i64 x, .int .i64 y] rfl rfl ?c1 ?c2 ?c3 ?c4 ?c5 ?_)
            case c1 => exact two_cells _ _ _ _ _ (by simp)
            case c2 => intro u hu; simp at hu; rcases hu with rfl | rfl <;> rfl
            case c3 => unfold maxLen; first | omega | (simp; omega)
            case c4 => first | omega | (simp; omega)
            case c5 => first | omega | (simp; omega)
            intro v3 w3 hown' hgrow hnil
            obtain ⟨R1, R2', R3⟩ := put_mid D2.out A2.out R2.out hown' hgrow (fun e => hnil e)
            have R4 := Lib.hid R1
            have A4 := Lib.hid R2'
            have D4 := Lib.hid R3
            have hb4 : Below w2.heap.size w2 w2 := Below.refl _ _
            have q0' : w3.cell? ⟨b, off + k * 2, none⟩ = some (.int .i64 p) := (Below.cell R3 (p := ⟨b, off + k * 2, none⟩) hb).trans q00.out
            have q1' : w3.cell? ⟨b, off + k * 2 + 1, none⟩ = some (.int .i64 r) := (Below.cell R3 (p := ⟨b, off + k * 2 + 1, none⟩) hb).trans q01.out
            obtain ⟨x0', x1', _, _⟩ := blk2 A4.out
            have hs' := lt_of_heap A4.out
            have hOl' : (O ++ [(x, y)]).length ≤ 1900002 := by simp; omega
            clear hown' hgrow hnil R1 R2' R3 hb4 q0 q1 x0 x1 D2 A2 R2
            obtain ⟨O2, hO2⟩ : ∃ O2, O ++ [(x, y)] = O2 := ⟨_, rfl⟩
            rw [hO2] at R4 F hOl'
            clear hO2
            go_wp2_with (at_builtin; refine wpList_append_own _ rfl _ _ 27 rfl (w.heap.size + 1) 24 i0 (.agg #[.int .i64 0, .int .i64 0]) 2 16 Try.underlying27 hi hz0 hz1 hz2 rfl (by decide) _ _ _ rfl (R4.out.1.alloc _) ⟨w3.heap.size, 0, none⟩ 1 1 [.int .i64 p, .int .i64 r] rfl rfl ?c1 ?c2 ?c3 ?c4 ?c5 ?_)
            case c1 => exact two_cells _ _ _ _ _ (by simp)
            case c2 => intro u hu; simp at hu; rcases hu with rfl | rfl <;> rfl
            case c3 => unfold maxLen; first | omega | (simp; omega)
            case c4 => first | omega | (simp; omega)
            case c5 => first | omega | (simp; omega)
            intro v' w4 hown' hgrow hnil
            obtain ⟨R1, R2', R3⟩ := put_mid D4.out A4.out R4.out hown' hgrow (fun e => hnil e)
            have RR : Hid (PutRel L x y w (k + 1) v' true w4) := Lib.hid ⟨_, R1, F.out, R2', R3⟩
            clear hown' hgrow hnil R1 R2' R3 F hE
            go_wp2_with fail
            go_roundw
            case rel => exact ⟨k + 1, true, by omega, by go_num, rfl, RR.out⟩
            case measure => simp [intOf]; omega
        · have hlt2 : ltB x y p r = false := by simpa using hlt2
          have sl := slt_any x y p r
          rw [hlt2] at sl
          have F := Lib.hid (put_miss (by rw [hn.out]; exact hlt) hc.out (show ltP (x, y) (p, r) = false from hlt2) hE.out)
          clear hlt2 h
          go_wp2_with fail
          go_region_with (go_at_call 45; (with_reducible refine (sl _).mono ?_); rintro e w2 ⟨rfl, B⟩; have D2 := Lib.hid (bstep (Below.drew hnx.out) B); have A2 := Lib.hid ((Below.block B _ hs).trans (show wr.drew.heap[w.heap.size]? = _ from hA.out)); have R2 := Lib.hid ((Row.up hR.out (Below.drew (Below.refl _ _))).up B); obtain ⟨x0, x1, _, _⟩ := blk2 A2.out; have q0 := cell_later B (show wr.drew.cell? _ = _ from q0); have q1 := cell_later B (show wr.drew.cell? _ = _ from q1); have hs := lt_of_heap A2.out; have sz := Below.size B; clear B hA hR hnx)
          all_goals
            go_wp2_with (at_builtin; refine wpList_append_own _ rfl _ _ 27 rfl (w.heap.size + 1) 24 i0 (.agg #[.int .i64 0, .int .i64 0]) 2 16 Try.underlying27 hi hz0 hz1 hz2 rfl (by decide) _ _ _ rfl (R2.out.1.alloc _) ⟨w2.heap.size, 0, none⟩ 1 1 [.int .i64 p, .int .i64 r] rfl rfl ?c1 ?c2 ?c3 ?c4 ?c5 ?_)
            case c1 => exact two_cells _ _ _ _ _ (by simp)
            case c2 => intro u hu; simp at hu; rcases hu with rfl | rfl <;> rfl
            case c3 => unfold maxLen; first | omega | (simp; omega)
            case c4 => first | omega | (simp; omega)
            case c5 => first | omega | (simp; omega)
            intro v' w4 hown' hgrow hnil
            obtain ⟨R1, R2', R3⟩ := put_mid D2.out A2.out R2.out hown' hgrow (fun e => hnil e)
            have RR : Hid (PutRel L x y w (k + 1) v' false w4) := Lib.hid ⟨_, R1, F.out, R2', R3⟩
            clear hown' hgrow hnil R1 R2' R3 F hE
            go_wp2_with fail
            go_roundw
            case rel => exact ⟨k + 1, false, by omega, by go_num, rfl, RR.out⟩
            case measure => simp [intOf]; omega
      · have F := Lib.hid (put_in (by rw [hn.out]; exact hlt) hc.out hE.out)
        clear h
        go_wp2_with fail
        go_quiet (fail)
        go_wp2_with (at_builtin; refine wpList_append_own _ rfl _ _ 27 rfl (w.heap.size + 1) 24 i0 (.agg #[.int .i64 0, .int .i64 0]) 2 16 Try.underlying27 hi hz0 hz1 hz2 rfl (by decide) _ _ _ rfl ((hR.out.up (bdrewN (Below.refl _ _) _)).1.alloc _) ⟨wr.heap.size, 0, none⟩ 1 1 [.int .i64 p, .int .i64 r] rfl rfl ?c1 ?c2 ?c3 ?c4 ?c5 ?_)
        case c1 => exact two_cells _ _ _ _ _ (by simp)
        case c2 => intro u hu; simp at hu; rcases hu with rfl | rfl <;> rfl
        case c3 => unfold maxLen; first | omega | (simp; omega)
        case c4 => first | omega | (simp; omega)
        case c5 => first | omega | (simp; omega)
        intro v' w4 hown' hgrow hnil
        obtain ⟨R1, R2', R3⟩ := put_mid (bdrewN hnx.out _) (show (wr.drewN _).heap[w.heap.size]? = _ from hA.out) (hR.out.up (bdrewN (Below.refl _ _) _)) hown' hgrow (fun e => hnil e)
        have RR : Hid (PutRel L x y w (k + 1) v' true w4) := Lib.hid ⟨_, R1, F.out, R2', R3⟩
        clear hR hA hnx hown' hgrow hnil R1 R2' R3 F hE
        go_wp2_with fail
        go_roundw
        case rel => exact ⟨k + 1, true, by omega, by go_num, rfl, RR.out⟩
        case measure => simp [intOf]; omega
    · obtain rfl : k = n := by omega
      have hdr : L.drop k = [] := List.drop_eq_nil_of_le (by rw [hn.out]; exact Nat.le_refl _)
      have hE2 := hE.out
      rw [hdr] at hE2
      have hE2 := Lib.hid hE2
      have hnx := Lib.hid hnx
      clear h hE hdr
      cases q
      · skip
        go_wp2_with (at_builtin; refine wpList_append_own _ rfl _ _ 27 rfl (w.heap.size + 1) 24 i0 (.agg #[.int .i64 0, .int .i64 0]) 2 16 Try.underlying27 hi hz0 hz1 hz2 rfl (by decide) _ _ _ rfl (hR.out.1.alloc _) ⟨wr.heap.size, 0, none⟩ 1 1 [.int .i64 x, .int .i64 y] rfl rfl ?c1 ?c2 ?c3 ?c4 ?c5 ?_)
        case c1 => exact two_cells _ _ _ _ _ (by simp)
        case c2 => intro u hu; simp at hu; rcases hu with rfl | rfl <;> rfl
        case c3 => unfold maxLen; first | omega | (simp; omega)
        case c4 => first | omega | (simp; omega)
        case c5 => first | omega | (simp; omega)
        intro v' w4 hown' hgrow hnil
        obtain ⟨R1, R2', R3⟩ := put_mid hnx.out hA.out hR.out hown' hgrow (fun e => hnil e)
        obtain ⟨g, hg, hO⟩ := R1.own (by simp; omega)
        rw [show O ++ [(x, y)] = putP L (x, y) from hE2.out] at hO
        have hO := Lib.hid hO
        have D4 := Lib.hid R3
        clear hown' hgrow hnil R1 R2' R3 hR hA hnx
        go_wp2_with fail
        go_ret
        exact ⟨g, _, by omega, rfl, hO.out, D4.out⟩
      · obtain ⟨g, hg, hO⟩ := hR.out.own (by omega)
        rw [show O = putP L (x, y) from (List.append_nil O).symm.trans hE2.out] at hO
        have hO := Lib.hid hO
        clear hR hA
        go_wp2_with fail
        go_ret
        exact ⟨g, _, by omega, rfl, hO.out, hnx.out⟩

theorem Row.parts {w : World} {B g n cap : Nat} {O : List Pid} (h : Row w B (.slice (some ⟨g, 0, none⟩) n cap) O) : ∃ cur, w.heap[g]? = some (.cells cur 24 (0, 0)) ∧ cur.size = cap * 2 ∧ O.length = n ∧ (∀ j, j < cap * 2 → (w.cell? ⟨g, j, none⟩).isSome = true) ∧ (∀ j, w.frozen? ⟨g, j, none⟩ = false) ∧ (∀ j, j < n * 2 → w.cell? ⟨g, j, none⟩ = (flatP O)[j]?) := by
  rcases h.1.2 with ⟨e, _⟩ | ⟨g', cap', cur, e, h1, h2, h3, h4, h5, h6⟩
  · exact absurd e h.2
  · injection e with e1 e2 e3
    injection e1 with e1
    injection e1 with e1
    subst e1 e2 e3
    refine ⟨cur, h2, h5, rfl, fun j hj => ?_, fun j => by simp [World.frozen?, h2], fun j hj => ?_⟩
    · rw [cell_of_cells h2, Array.getElem?_eq_getElem (by omega)]; rfl
    · rw [cell_of_cells h2, ← h6, List.getElem?_take, if_pos hj]; simp
end Go.Proofs.Ytfcjhojkfchccaa

/- The program's add: an id is put into a set in memory. -/
namespace Go.Proofs.Ytfcjhojkfchccaa
open Go.RowKit
set_option linter.unusedVariables false

theorem one_shl (n : Nat) (h : n < 64) : IntKind.u64.wrap ((1 : Int) * 2 ^ n) = ((2 ^ n : Nat) : Int) := by
  have h2 : 2 ^ n < 2 ^ 64 := Nat.pow_lt_pow_right (by decide) h
  have e : ((1 : Int) * 2 ^ n) = ((2 ^ n : Nat) : Int) := by rw [Int.one_mul]; exact (Int.natCast_pow 2 n).symm
  rw [IntKind.wrap_u64, e]
  generalize 2 ^ n = m at h2 ⊢
  omega

set_option maxRecDepth 100000 in
set_option maxHeartbeats 1000000 in
/-- A bit is set in the cell of the replica. -/
theorem add_at (b o pr nr m : Nat) (w : World) (hp : pr < 5) (hq : nr ≤ 50) (hb : b < w.heap.size) (c0 : w.cell? ⟨b, o + pr, none⟩ = some (.int .u64 m)) (f0 : w.frozen? ⟨b, o + pr, none⟩ = false) (hm : m < 2251799813685248) :
    Calls Try.prog 53 #[.pointer (some ⟨b, o, none⟩), .agg #[.int .i64 pr, .int .i64 nr]] w fun e w' =>
      e = .returned (.tuple #[]) ∧ ∃ w1, Below w.heap.size w w1 ∧ w' = w1.setCell ⟨b, o + pr, none⟩ (.int .u64 ((m ||| 2 ^ nr : Nat) : Int)) := by
  have ep : ((2 ^ nr : Nat) : Int) = (2 : Int) ^ nr := Int.natCast_pow 2 nr
  have sh : IntKind.u64.wrap ((2 : Int) ^ nr) = (2 : Int) ^ nr := by have := one_shl nr (by omega); rw [Int.one_mul, ep] at this; exact this
  have hp2 : 2 ^ nr < 2 ^ 64 := Nat.pow_lt_pow_right (by decide) (by omega)
  have ob : bits .or .u64 (m : Int) ((2 : Int) ^ nr) = ((m ||| 2 ^ nr : Nat) : Int) := by rw [← ep]; exact bits_or_u64_nat m (2 ^ nr) (by omega) hp2
  have D := Lib.hid ((Below.refl w.heap.size w).alloc (Nat.le_refl _) (.cells #[.int .i64 pr, .int .i64 nr] 24))
  have q0 := (D.out.cell (p := ⟨b, o + pr, none⟩) hb).trans c0
  have q1 := (D.out.frozen (p := ⟨b, o + pr, none⟩) hb).trans f0
  generalize m ||| 2 ^ nr = y at ob ⊢
  clear hp2 ep c0 f0 hm
  go_enter Try.func53, Try.ntmps53
  go_wp2_with fail
  go_region
  go_wp2_with fail
  all_goals
    go_end0
    refine ⟨rfl, _, D.out.drew, ?_⟩
    rw [World.setCell_drew, World.setCell_alloc_past _ _ _ _ hb]
end Go.Proofs.Ytfcjhojkfchccaa
