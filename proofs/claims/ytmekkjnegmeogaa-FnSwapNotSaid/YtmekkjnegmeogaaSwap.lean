/- StateSwap, of the program and of the model. -/
import Derived.Test.YtmekkjnegmeogaaSstep
import Derived.Test.YtmekkjnegmeogaaEqs
namespace Go.Proofs.Ytmekkjnegmeogaa
open Go.RowKit
set_option linter.unusedVariables false

/-- Two arrays of six numbers are compared. -/
theorem arr_eq (x0 x1 x2 x3 x4 x5 y0 y1 y2 y3 y4 y5 : Int) (w : World) : (binOp .eql 72 (.agg #[.int .i64 x0, .int .i64 x1, .int .i64 x2, .int .i64 x3, .int .i64 x4, .int .i64 x5]) (.agg #[.int .i64 y0, .int .i64 y1, .int .i64 y2, .int .i64 y3, .int .i64 y4, .int .i64 y5])).run Try.prog w = .ok (.bool (decide ([x0, x1, x2, x3, x4, x5] = [y0, y1, y2, y3, y4, y5]))) w := by
  have hp : ∀ (cs : Array Value) (k : Nat) (v : Value), cs[k]? = some v → (part 3 cs k).run Try.prog w = .ok v w := by
    intro cs k v h
    have ha : (isAgg 3).run Try.prog w = .ok false w := by kernel_rfl
    simp [part, ha, h]
  have hs : (sizeOf 3).run Try.prog w = .ok 1 w := by kernel_rfl
  have hu : (underlying 72).run Try.prog w = .ok (.array 6 3) w := by kernel_rfl
  rw [run_eql_struct, show (10000:Nat) = 9998+1+1 from rfl]
  have he : ∀ a b : Int, (Op.equalIn (9998 + 1) 3 (.int .i64 a) (.int .i64 b)).run Try.prog w = .ok (a == b) w := fun a b => run_equalIn_int _ _ _ _ .i64 _ _ Try.underlying3
  rw [Op.equalIn]
  simp [hu, hs, hp, he, Std.Legacy.Range.forIn_eq_forIn_range', Std.Legacy.Range.size, List.range'_succ, List.range'_zero, List.forIn_cons, List.forIn_nil]
  by_cases h0 : x0 = y0 <;> by_cases h1 : x1 = y1 <;> by_cases h2 : x2 = y2 <;> by_cases h3 : x3 = y3 <;> by_cases h4 : x4 = y4 <;> by_cases h5 : x5 = y5 <;> simp [h0, h1, h2, h3, h4, h5]

/-- What StateSwap answers. -/
def swB (L : List Int) (k key v k' key' v' : Int) : Bool :=
  if stV L = true ∧ cvB k key v = true ∧ cvB k' key' v' = true then
    decide (stepL (stepL L k key v) k' key' v' = stepL (stepL L k' key' v') k key v) && (decide (stepN L k key v = stepN (stepL L k' key' v') k key v) && decide (stepN L k' key' v' = stepN (stepL L k key v) k' key' v'))
  else false
theorem swB_no {L : List Int} {k key v k' key' v' : Int} (h : ¬ (stV L = true ∧ cvB k key v = true ∧ cvB k' key' v' = true)) : false = swB L k key v k' key' v' := (if_neg h).symm
theorem swB_1 {L : List Int} {k key v k' key' v' : Int} (h : stV L = false) : false = swB L k key v k' key' v' := swB_no (fun x => by rw [h] at x; exact absurd x.1 (by decide))
theorem swB_2 {L : List Int} {k key v k' key' v' : Int} (h : cvB k key v = false) : false = swB L k key v k' key' v' := swB_no (fun x => by rw [h] at x; exact absurd x.2.1 (by decide))
theorem swB_3 {L : List Int} {k key v k' key' v' : Int} (h : cvB k' key' v' = false) : false = swB L k key v k' key' v' := swB_no (fun x => by rw [h] at x; exact absurd x.2.2 (by decide))
theorem swB_yes {L : List Int} {k key v k' key' v' : Int} (h1 : stV L = true) (h2 : cvB k key v = true) (h3 : cvB k' key' v' = true) : swB L k key v k' key' v' =
    (decide (stepL (stepL L k key v) k' key' v' = stepL (stepL L k' key' v') k key v) && (decide (stepN L k key v = stepN (stepL L k' key' v') k key v) && decide (stepN L k' key' v' = stepN (stepL L k key v) k' key' v'))) := if_pos ⟨h1, h2, h3⟩

theorem Cel.six {w : World} {b : Nat} {x0 x1 x2 x3 x4 x5 : Int} (h : Cel w b [x0, x1, x2, x3, x4, x5]) :
    w.cell? ⟨b, 0, none⟩ = some (.int .i64 x0) ∧ w.cell? ⟨b, 1, none⟩ = some (.int .i64 x1) ∧ w.cell? ⟨b, 2, none⟩ = some (.int .i64 x2) ∧ w.cell? ⟨b, 3, none⟩ = some (.int .i64 x3) ∧ w.cell? ⟨b, 4, none⟩ = some (.int .i64 x4) ∧ w.cell? ⟨b, 5, none⟩ = some (.int .i64 x5) :=
  ⟨h.cell 0 (by omega), h.cell 1 (by omega), h.cell 2 (by omega), h.cell 3 (by omega), h.cell 4 (by omega), h.cell 5 (by omega)⟩


set_option maxRecDepth 100000 in
set_option maxHeartbeats 4000000 in
theorem iswap_any (u : Value) (L : List Int) (k key v k' key' v' : Int) (w : World) (h : Ints w u L) :
    Calls Try.prog 24 #[u, .agg #[.int .i64 k, .int .i64 key, .int .i64 v], .agg #[.int .i64 k', .int .i64 key', .int .i64 v']] w fun e w' => e = .returned (.bool (swB L k key v k' key' v')) ∧ Below w.heap.size w w' := by
  have h := Lib.hid h
  go_enter Try.func24, Try.ntmps24
  go_wp2_with fail
  refine (cof_any u L _ (h.out.up (((Below.refl _ _).alloc (Nat.le_refl _) _).alloc (by simp) _) (Nat.le_refl _))).mono ?_
  rintro e w1 ⟨hb1, hres⟩
  have A1 := (hb1.block w.heap.size (by simp; omega)).trans ((Below.heap_alloc _ _ _ (by simp)).trans (heap_alloc_new w _))
  have B1 := (hb1.block (w.heap.size + 1) (by simp)).trans (heap_alloc_at _ _ _ (by simp))
  have z1 : w.heap.size + 2 ≤ w1.heap.size := by simpa using hb1.size
  have D := Lib.hid ((((Below.refl w.heap.size w).alloc (Nat.le_refl _) (.cells #[.int .i64 k, .int .i64 key, .int .i64 v] 25)).alloc (by simp) (.cells #[.int .i64 k', .int .i64 key', .int .i64 v'] 25)).trans (hb1.mono (by simp; omega)))
  have S := Lib.hid z1
  obtain ⟨a1, a2, a3, _, _, _⟩ := blk3 A1
  have B1 := Lib.hid B1
  have hres := Lib.hid hres
  clear hb1 A1 h
  have hkeep : Hid (w.heap.size + 2 ≤ w1.heap.size) := S
  rcases hres.out with ⟨hs, b, hb', rfl, hC⟩ | ⟨hs, rfl⟩
  · have hb : w.heap.size + 2 ≤ b := by simpa using hb'
    have hC := Lib.hid hC
    have hs := Lib.hid hs
    clear hb' hres
    go_wp2_with fail
    refine (act_any k key v _).mono ?_
    rintro e w2 ⟨rfl, B⟩
    replace hC := Lib.hid (hC.out.same (B.block b hC.out.lt))
    replace B1 := Lib.hid (bblk B (by have := S.out; omega) B1.out)
    replace D := Lib.hid (bstep D.out B)
    have z2 := Nat.le_trans S.out B.size
    replace S := Lib.hid z2
    clear B a1 a2 a3
    obtain ⟨b1, b2, b3, _, _, _⟩ := blk3 B1.out
    go_wp2_with fail
    refine (act_any k' key' v' _).mono ?_
    rintro e w3 ⟨rfl, B⟩
    replace hC := Lib.hid (hC.out.same (B.block b hC.out.lt))
    replace D := Lib.hid (bstep D.out B)
    replace S := Lib.hid (Nat.le_trans S.out B.size)
    clear B b1 b2 b3 B1
    cases hv : cvB k key v
    · have hr := Lib.hid (swB_2 (L := L) (k' := k') (key' := key') (v' := v') hv)
      clear hv
      go_wp2_with fail
      go_ret
      exact ⟨ret_bool hr.out, D.out⟩
    · have hv := Lib.hid hv
      cases hv' : cvB k' key' v'
      · have hr := Lib.hid (swB_3 (L := L) (k := k) (key := key) (v := v) hv')
        clear hv'
        go_wp2_with fail
        go_ret
        exact ⟨ret_bool hr.out, D.out⟩
      · have hv' := Lib.hid hv'
        have hr := Lib.hid (swB_yes hs.out hv.out hv'.out)
        obtain ⟨x0, x1, x2, x3, x4, x5, rfl⟩ := six (stV_len hs.out)
        obtain ⟨c0, c1, c2, c3, c4, c5⟩ := hC.out.six
        have hbl := hC.out.lt
        go_wp2_with fail
        clear c0 c1 c2 c3 c4 c5
        have hO : Hid (Cel (w3.alloc (.cells #[.int .i64 x0, .int .i64 x1, .int .i64 x2, .int .i64 x3, .int .i64 x4, .int .i64 x5] 72)) w3.heap.size [x0, x1, x2, x3, x4, x5]) := Lib.hid ⟨heap_alloc_new w3 _, rfl⟩
        replace hC := Lib.hid (hC.out.alloc (.cells #[.int .i64 x0, .int .i64 x1, .int .i64 x2, .int .i64 x3, .int .i64 x4, .int .i64 x5] 72))
        replace D := Lib.hid (D.out.alloc (by have := S.out; omega) (.cells #[.int .i64 x0, .int .i64 x1, .int .i64 x2, .int .i64 x3, .int .i64 x4, .int .i64 x5] 72))
        refine (run_any b _ k key v _ hC.out hs.out hv.out).mono ?_
        rintro e w4 ⟨rfl, hC4, K⟩
        replace hO := Lib.hid (hO.out.same (K.block _ hO.out.lt (by omega)))
        have hC4 := Lib.hid hC4
        replace D := Lib.hid (D.out.trans ((K.mono D.out.size).below (by omega)))
        clear K hC
        go_wp2_with fail
        refine (run_any b _ k' key' v' _ hC4.out (stV_step hs.out hv.out) hv'.out).mono ?_
        rintro e w5 ⟨rfl, hC5, K⟩
        replace hO := Lib.hid (hO.out.same (K.block _ hO.out.lt (by omega)))
        have hC5 := Lib.hid hC5
        replace D := Lib.hid (D.out.trans ((K.mono D.out.size).below (by omega)))
        clear K hC4
        go_wp2_with fail
        refine (run_any w3.heap.size _ k' key' v' _ hO.out hs.out hv'.out).mono ?_
        rintro e w6 ⟨rfl, hO6, K⟩
        replace hC5 := Lib.hid (hC5.out.same (K.block _ hC5.out.lt (by omega)))
        have hO6 := Lib.hid hO6
        replace D := Lib.hid (D.out.trans ((K.mono D.out.size).below (by have := S.out; omega)))
        clear K hO
        go_wp2_with fail
        refine (run_any w3.heap.size _ k key v _ hO6.out (stV_step hs.out hv'.out) hv.out).mono ?_
        rintro e w7 ⟨rfl, hO7, K⟩
        replace hC5 := Lib.hid (hC5.out.same (K.block _ hC5.out.lt (by omega)))
        replace D := Lib.hid (D.out.trans ((K.mono D.out.size).below (by have := S.out; omega)))
        have hlP : (stepL (stepL [x0, x1, x2, x3, x4, x5] k key v) k' key' v').length = 6 := by rw [stepL_len, stepL_len]; rfl
        have hlQ : (stepL (stepL [x0, x1, x2, x3, x4, x5] k' key' v') k key v).length = 6 := by rw [stepL_len, stepL_len]; rfl
        have hO7 := Lib.hid hO7
        clear K hO6 S
        generalize stepN (stepL [x0, x1, x2, x3, x4, x5] k key v) k' key' v' = yThen at hr ⊢
        generalize stepN (stepL [x0, x1, x2, x3, x4, x5] k' key' v') k key v = xThen at hr ⊢
        generalize stepN [x0, x1, x2, x3, x4, x5] k key v = xFirst at hr ⊢
        generalize stepN [x0, x1, x2, x3, x4, x5] k' key' v' = yFirst at hr ⊢
        generalize stepL (stepL [x0, x1, x2, x3, x4, x5] k key v) k' key' v' = P at hC5 hlP hr
        generalize stepL (stepL [x0, x1, x2, x3, x4, x5] k' key' v') k key v = Q at hO7 hlQ hr
        obtain ⟨p0, p1, p2, p3, p4, p5, rfl⟩ := six hlP
        obtain ⟨q0, q1, q2, q3, q4, q5, rfl⟩ := six hlQ
        obtain ⟨c0, c1, c2, c3, c4, c5⟩ := hC5.out.six
        obtain ⟨d0, d1, d2, d3, d4, d5⟩ := hO7.out.six
        have keq := fun w => arr_eq p0 p1 p2 p3 p4 p5 q0 q1 q2 q3 q4 q5 w
        clear hlP hlQ hs hC5 hO7
        generalize decide ([p0, p1, p2, p3, p4, p5] = [q0, q1, q2, q3, q4, q5]) = eb at keq hr
        have hr := Lib.hid hr.out.symm
        go_wp2_with fail
        cases eb
        · go_quiet (fail)
          go_wp2_with fail
          go_ret
          exact ⟨ret_bool hr.out, bdrewN D.out _⟩
        · by_cases e1 : xFirst = xThen
          · subst e1
            by_cases e2 : yFirst = yThen
            · subst e2
              have hr2 : Hid (true = swB _ _ _ _ _ _ _) := Lib.hid (Eq.trans (by simp) hr.out)
              go_quiet (fail)
              go_wp2_with fail
              go_ret
              exact ⟨ret_bool hr2.out, bdrewN D.out _⟩
            · have hr2 : Hid (false = swB _ _ _ _ _ _ _) := Lib.hid (Eq.trans (by simp [e2]) hr.out)
              have e2' : (yFirst == yThen) = false := by simpa using e2
              clear e2
              go_quiet (fail)
              go_wp2_with fail
              go_ret
              exact ⟨ret_bool hr2.out, bdrewN D.out _⟩
          · have hr2 : Hid (false = swB _ _ _ _ _ _ _) := Lib.hid (Eq.trans (by simp [e1]) hr.out)
            have e1' : (xFirst == xThen) = false := by simpa using e1
            clear e1
            go_quiet (fail)
            go_wp2_with fail
            go_ret
            exact ⟨ret_bool hr2.out, bdrewN D.out _⟩
  · have hr := Lib.hid (swB_1 (k := k) (key := key) (v := v) (k' := k') (key' := key') (v' := v') hs)
    clear hs hres
    go_wp2_with fail
    refine (act_any k key v _).mono ?_
    rintro e w2 ⟨rfl, B⟩
    replace B1 := Lib.hid (bblk B (by have := S.out; omega) B1.out)
    replace D := Lib.hid (bstep D.out B)
    have z2 := Nat.le_trans S.out B.size
    clear B a1 a2 a3
    obtain ⟨b1, b2, b3, _, _, _⟩ := blk3 B1.out
    go_wp2_with fail
    refine (act_any k' key' v' _).mono ?_
    rintro e w3 ⟨rfl, B⟩
    replace D := Lib.hid (bstep D.out B)
    clear B b1 b2 b3 B1
    go_wp2_with fail
    go_ret
    exact ⟨ret_bool hr.out, D.out⟩

set_option maxRecDepth 100000 in
set_option maxHeartbeats 4000000 in
theorem sswap_any (u : Value) (L : List Int) (k key v k' key' v' : Int) (w : World) (h : Ints w u L) :
    Calls Try.prog 25 #[u, .agg #[.int .i64 k, .int .i64 key, .int .i64 v], .agg #[.int .i64 k', .int .i64 key', .int .i64 v']] w fun e w' => e = .returned (.bool (swB L k key v k' key' v')) ∧ Below w.heap.size w w' := by
  have h := Lib.hid h
  go_enter Try.func25, Try.ntmps25
  go_wp2_with fail
  refine (sstv_any u L _ (h.out.up (((Below.refl _ _).alloc (Nat.le_refl _) _).alloc (by simp) _) (Nat.le_refl _))).mono ?_
  rintro e w1 ⟨rfl, hb1⟩
  have A := (hb1.block w.heap.size (by simp; omega)).trans ((Below.heap_alloc _ _ _ (by simp)).trans (heap_alloc_new w _))
  have E := (hb1.block (w.heap.size + 1) (by simp)).trans (heap_alloc_at _ _ _ (by simp))
  have z1 : w.heap.size + 2 ≤ w1.heap.size := by simpa using hb1.size
  have D := Lib.hid ((((Below.refl w.heap.size w).alloc (Nat.le_refl _) (.cells #[.int .i64 k, .int .i64 key, .int .i64 v] 25)).alloc (by simp) (.cells #[.int .i64 k', .int .i64 key', .int .i64 v'] 25)).trans (hb1.mono (by simp; omega)))
  have S := Lib.hid z1
  have A := Lib.hid A
  have E := Lib.hid E
  clear hb1 z1
  cases hs : stV L
  · have hr := Lib.hid (swB_1 (k := k) (key := key) (v := v) (k' := k') (key' := key') (v' := v') hs)
    clear hs
    go_wp2_with fail
    go_ret
    exact ⟨ret_bool hr.out, D.out⟩
  have hs := Lib.hid hs
  obtain ⟨a1, a2, a3, _, _, _⟩ := blk3 A.out
  go_wp2_with fail
  refine (svalid_any k key v _).mono ?_
  rintro e w2 ⟨rfl, B⟩
  replace A := Lib.hid (bblk B (by have := S.out; omega) A.out)
  replace E := Lib.hid (bblk B (by have := S.out; omega) E.out)
  replace D := Lib.hid (bstep D.out B)
  replace S := Lib.hid (Nat.le_trans S.out B.size)
  clear B
  clear a1 a2 a3
  cases hv : cvB k key v
  · have hr := Lib.hid (swB_2 (L := L) (k' := k') (key' := key') (v' := v') hv)
    clear hv
    go_wp2_with fail
    go_ret
    exact ⟨ret_bool hr.out, D.out⟩
  have hv := Lib.hid hv
  obtain ⟨b1, b2, b3, _, _, _⟩ := blk3 E.out
  go_wp2_with fail
  refine (svalid_any k' key' v' _).mono ?_
  rintro e w3 ⟨rfl, B⟩
  replace A := Lib.hid (bblk B (by have := S.out; omega) A.out)
  replace E := Lib.hid (bblk B (by have := S.out; omega) E.out)
  replace D := Lib.hid (bstep D.out B)
  replace S := Lib.hid (Nat.le_trans S.out B.size)
  clear B
  clear b1 b2 b3
  cases hv' : cvB k' key' v'
  · have hr := Lib.hid (swB_3 (L := L) (k := k) (key := key) (v := v) hv')
    clear hv'
    go_wp2_with fail
    go_ret
    exact ⟨ret_bool hr.out, D.out⟩
  have hv' := Lib.hid hv'
  have hr := Lib.hid (swB_yes hs.out hv.out hv'.out).symm
  obtain ⟨a1, a2, a3, _, _, _⟩ := blk3 A.out
  go_wp2_with fail
  refine (l2_any u L k key v _ (h.out.up D.out (Nat.le_refl _)) hs.out hv.out).mono ?_
  rintro e w4 ⟨b4, x4, g, rfl, O4, B⟩
  clear g
  have O4 := Lib.hid O4
  replace A := Lib.hid (bblk B (by have := S.out; omega) A.out)
  replace E := Lib.hid (bblk B (by have := S.out; omega) E.out)
  replace D := Lib.hid (bstep D.out B)
  replace S := Lib.hid (Nat.le_trans S.out B.size)
  clear B
  clear a1 a2 a3
  obtain ⟨b1, b2, b3, _, _, _⟩ := blk3 E.out
  go_wp2_with fail
  refine (l2_any x4 _ k' key' v' _ O4.out.read (stV_step hs.out hv.out) hv'.out).mono ?_
  rintro e w5 ⟨b5, x5, g, rfl, O5, B⟩
  clear g
  have O5 := Lib.hid O5
  replace A := Lib.hid (bblk B (by have := S.out; omega) A.out)
  replace E := Lib.hid (bblk B (by have := S.out; omega) E.out)
  replace D := Lib.hid (bstep D.out B)
  replace S := Lib.hid (Nat.le_trans S.out B.size)
  clear B
  clear b1 b2 b3
  clear O4
  obtain ⟨b1, b2, b3, _, _, _⟩ := blk3 E.out
  go_wp2_with fail
  refine (l2_any u L k' key' v' _ (h.out.up D.out (Nat.le_refl _)) hs.out hv'.out).mono ?_
  rintro e w6 ⟨b6, x6, g, rfl, O6, B⟩
  clear g
  have O6 := Lib.hid O6
  replace O5 := Lib.hid (O5.out.up B O5.out.lt)
  replace A := Lib.hid (bblk B (by have := S.out; omega) A.out)
  replace E := Lib.hid (bblk B (by have := S.out; omega) E.out)
  replace D := Lib.hid (bstep D.out B)
  replace S := Lib.hid (Nat.le_trans S.out B.size)
  clear B
  clear b1 b2 b3
  obtain ⟨a1, a2, a3, _, _, _⟩ := blk3 A.out
  go_wp2_with fail
  refine (l2_any x6 _ k key v _ O6.out.read (stV_step hs.out hv'.out) hv.out).mono ?_
  rintro e w7 ⟨b7, x7, g, rfl, O7, B⟩
  clear g
  have O7 := Lib.hid O7
  replace O5 := Lib.hid (O5.out.up B O5.out.lt)
  replace A := Lib.hid (bblk B (by have := S.out; omega) A.out)
  replace E := Lib.hid (bblk B (by have := S.out; omega) E.out)
  replace D := Lib.hid (bstep D.out B)
  replace S := Lib.hid (Nat.le_trans S.out B.size)
  clear B
  clear a1 a2 a3
  clear O6
  generalize stepN (stepL L k key v) k' key' v' = q at hr ⊢
  generalize stepN (stepL L k' key' v') k key v = s at hr ⊢
  generalize stepN L k key v = p at hr ⊢
  generalize stepN L k' key' v' = r at hr ⊢
  generalize stepL (stepL L k key v) k' key' v' = P at O5 hr
  generalize stepL (stepL L k' key' v') k key v = Q at O7 hr
  go_wp2_with fail
  refine (l2same_any _ _ P Q _ O5.out.read O7.out.read).mono ?_
  rintro e w8 ⟨rfl, B⟩
  replace D := Lib.hid (bstep D.out B)
  clear B O5 O7 A E S
  generalize decide (P = Q) = eb at hr ⊢
  cases eb
  · have hr2 : Hid (false = swB _ _ _ _ _ _ _) := Lib.hid (Eq.trans (by simp) hr.out)
    go_wp2_with fail
    go_ret
    exact ⟨ret_bool hr2.out, D.out⟩
  · by_cases e1 : p = s
    · subst e1
      by_cases e2 : q = r
      · subst e2
        have hr2 : Hid (true = swB _ _ _ _ _ _ _) := Lib.hid (Eq.trans (by simp) hr.out)
        go_wp2_with fail
        go_ret
        exact ⟨ret_bool hr2.out, D.out⟩
      · have hr2 : Hid (false = swB _ _ _ _ _ _ _) := Lib.hid (Eq.trans (by have e3 : ¬ r = q := fun x => e2 x.symm
                                                                            simp [e3]) hr.out)
        have e2' : (q == r) = false := by simpa using e2
        clear e2
        go_wp2_with fail
        go_ret
        exact ⟨ret_bool hr2.out, D.out⟩
    · have hr2 : Hid (false = swB _ _ _ _ _ _ _) := Lib.hid (Eq.trans (by simp [e1]) hr.out)
      have e1' : (p == s) = false := by simpa using e1
      clear e1
      go_wp2_with fail
      go_ret
      exact ⟨ret_bool hr2.out, D.out⟩
end Go.Proofs.Ytmekkjnegmeogaa
