/- The program's StateRun. -/
import Derived.Test.YtmekkjnegmeogaaCmds
namespace Go.Proofs.Ytmekkjnegmeogaa
open Go.RowKit
set_option linter.unusedVariables false

/-- Commands run one after the other. -/
def runS : List Int → List Cm → List Int × List Int
  | L, [] => (L, [])
  | L, c :: r => ((runS (stepL L c.1 c.2.1 c.2.2) r).1, stepN L c.1 c.2.1 c.2.2 :: (runS (stepL L c.1 c.2.1 c.2.2) r).2)

theorem runS_app : ∀ (A B : List Cm) (L : List Int), runS L (A ++ B) = ((runS (runS L A).1 B).1, (runS L A).2 ++ (runS (runS L A).1 B).2)
  | [], B, L => rfl
  | c :: r, B, L => by
    have ih := runS_app r B (stepL L c.1 c.2.1 c.2.2)
    simp only [List.cons_append, runS, ih]

theorem cm_take {C : List Cm} {k : Nat} (hk : k < C.length) : C.take (k + 1) = C.take k ++ [C.getD k nocm] := by
  rw [List.take_add_one, List.getD_eq_getElem?_getD, List.getElem?_eq_getElem hk]; rfl
theorem runS_next (L : List Int) {C : List Cm} {k : Nat} (hk : k < C.length) {x y z : Int} (hc : C.getD k nocm = (x, y, z)) :
    runS L (C.take (k + 1)) = (stepL (runS L (C.take k)).1 x y z, (runS L (C.take k)).2 ++ [stepN (runS L (C.take k)).1 x y z]) := by
  rw [cm_take hk, runS_app, hc]; rfl
theorem runS_len : ∀ (C : List Cm) (L : List Int), (runS L C).2.length = C.length
  | [], _ => rfl
  | c :: r, L => by simp only [runS, List.length_cons]; rw [runS_len r]

def okC (C : List Cm) : Bool := C.all (fun c => cvB c.1 c.2.1 c.2.2)
theorem okC_bad {C : List Cm} {k : Nat} (hk : k < C.length) {x y z : Int} (hc : C.getD k nocm = (x, y, z)) (h : cvB x y z = false) : okC C = false := by
  unfold okC
  rw [List.all_eq_false]
  refine ⟨C[k], List.getElem_mem _, ?_⟩
  rw [List.getD_eq_getElem?_getD, List.getElem?_eq_getElem hk] at hc
  have : C[k] = (x, y, z) := hc
  rw [this]; simpa using h
theorem okC_end {C : List Cm} (h : ∀ j, j < C.length → cvB (C.getD j nocm).1 (C.getD j nocm).2.1 (C.getD j nocm).2.2 = true) : okC C = true := by
  unfold okC
  rw [List.all_eq_true]
  intro c hc
  obtain ⟨i, hi, rfl⟩ := List.getElem_of_mem hc
  have := h i hi
  rw [List.getD_eq_getElem?_getD, List.getElem?_eq_getElem hi] at this
  simpa using this

/-- What StateRun answers. -/
def runR (L : List Int) (C : List Cm) : List Int × List Int × Bool := if stV L = true ∧ C.length ≤ 20 ∧ okC C = true then ((runS L C).1, (runS L C).2, true) else ([], [], false)
theorem runR_yes {L : List Int} {C : List Cm} (h1 : stV L = true) (h2 : C.length ≤ 20) (h3 : okC C = true) : runR L C = ((runS L C).1, (runS L C).2, true) := if_pos ⟨h1, h2, h3⟩
theorem runR_no {L : List Int} {C : List Cm} (h : ¬ (stV L = true ∧ C.length ≤ 20 ∧ okC C = true)) : runR L C = ([], [], false) := if_neg h
theorem runR_1 {L : List Int} {C : List Cm} (h : stV L = false) : runR L C = ([], [], false) := runR_no (fun x => by rw [h] at x; exact absurd x.1 (by decide))
theorem runR_2 {L : List Int} {C : List Cm} (h : ¬ C.length ≤ 20) : runR L C = ([], [], false) := runR_no (fun x => h x.2.1)
theorem runR_3 {L : List Int} {C : List Cm} (h : okC C = false) : runR L C = ([], [], false) := runR_no (fun x => by rw [h] at x; exact absurd x.2.2 (by decide))

/-- What StateRun of the program leaves. -/
def IrunPost (R : List Int × List Int × Bool) (w : World) (e : Ending) (w' : World) : Prop :=
  ∃ b u b' u', w.heap.size ≤ b ∧ w.heap.size ≤ b' ∧ ¬ b = b' ∧ e = .returned (.tuple #[u, u', .bool R.2.2]) ∧ Own w' b u R.1 ∧ Own w' b' u' R.2.1 ∧ Below w.heap.size w w'

theorem take_set_succ {M : List Int} {k : Nat} (hk : k < M.length) (x : Int) : (M.set k x).take (k + 1) = M.take k ++ [x] := by
  rw [List.take_add_one, List.getElem?_set_self hk, List.take_set]
  rw [List.set_eq_of_length_le (by rw [List.length_take]; omega)]
  rfl

theorem two_nil (w : World) {t s : TypeId} : Own ((w.alloc (.cells #[] t)).alloc (.cells #[] s)) w.heap.size (.slice (some ⟨w.heap.size, 0, none⟩) 0 0) [] ∧ Own ((w.alloc (.cells #[] t)).alloc (.cells #[] s)) (w.heap.size + 1) (.slice (some ⟨w.heap.size + 1, 0, none⟩) 0 0) [] := by
  refine ⟨(own_nil w t).alloc _, ?_⟩
  have h := own_nil (w.alloc (.cells #[] t)) s
  have e : (w.alloc (.cells #[] t)).heap.size = w.heap.size + 1 := by simp
  rw [e] at h
  exact h

/-- The relation of the loop. -/
def IrunRel (L : List Int) (C : List Cm) (b d n : Nat) (w : World) (k : Nat) (wr : World) : Prop :=
  ∃ M : List Int, M.length = n ∧ M.take k = (runS L (C.take k)).2 ∧ Own wr d (.slice (some ⟨d, 0, none⟩) n n) M ∧ Cel wr b (runS L (C.take k)).1 ∧ stV (runS L (C.take k)).1 = true ∧
    (∀ j, j < k → cvB (C.getD j nocm).1 (C.getD j nocm).2.1 (C.getD j nocm).2.2 = true) ∧ Below w.heap.size w wr

set_option maxHeartbeats 4000000 in
theorem irun_at (u : Value) (L : List Int) (a : Option Addr) (ca : Nat) (C : List Cm) (w : World) (h : Ints w u L) (hn20 : C.length ≤ 20) (hc : C.length = 0 ∨ ∃ b off, a = some ⟨b, off, none⟩ ∧ b < w.heap.size ∧ ∀ i, i < C.length →
    w.cell? ⟨b, off + i * 3, none⟩ = some (.int .i64 (C.getD i nocm).1) ∧ w.cell? ⟨b, off + i * 3 + 1, none⟩ = some (.int .i64 (C.getD i nocm).2.1) ∧ w.cell? ⟨b, off + i * 3 + 2, none⟩ = some (.int .i64 (C.getD i nocm).2.2)) :
    Calls Try.prog 21 #[u, .slice a C.length ca] w (IrunPost (runR L C) w) := by
  have hmk := run_make_row' (P := Try.prog) 23 3 (.int .i64 0) 8 Try.underlying23 info_int rfl .i64 .i64 C.length (by omega) (by omega)
  have h := Lib.hid h
  have hc := Lib.hid hc
  obtain ⟨n, hn⟩ : ∃ n, Hid (C.length = n) := ⟨_, Lib.hid rfl⟩
  rw [hn.out] at hmk hn20 ⊢
  go_enter Try.func21, Try.ntmps21
  go_wp2_with fail
  refine (cof_any u L _ h.out).mono ?_
  rintro e w1 ⟨hb1, hres⟩
  have D1 := Lib.hid hb1
  have z1 := hb1.size
  clear hb1
  rcases hres with ⟨hs, b, hb, rfl, hC⟩ | ⟨hs, rfl⟩
  · have hs := Lib.hid hs
    have hCl := hC.lt
    have hO := Lib.hid (own_made w1 n (by omega) 3)
    have hC := Lib.hid (hC.alloc (.cells (madeCells #[.int .i64 0] n) 3))
    go_wp2_with fail
    clear hmk
    go_loopw [33] (fun i wr => ∃ k : Nat, k ≤ n ∧ i = .int .i64 k ∧ IrunRel L C b w1.heap.size n w k wr) (fun i _ => n - (intOf i).toNat)
    case atStart => exact ⟨0, Nat.zero_le _, rfl, List.replicate n 0, by simp, rfl, hO.out, hC.out, hs.out, fun j hj => absurd hj (Nat.not_lt_zero _), D1.out.alloc z1 _⟩
    case round =>
      obtain ⟨k, hk, rfl, M, hM, hT, hO2, hC2, hS2, hV, hnx⟩ := hrel
      clear hO hC
      have sD := hnx.size
      have sO := hO2.lt
      have sC := hC2.lt
      have hM := Lib.hid hM
      have hT := Lib.hid hT
      have hO2 := Lib.hid hO2
      have hC2 := Lib.hid hC2
      have hS2 := Lib.hid hS2
      have hV := Lib.hid hV
      have hnx := Lib.hid hnx
      by_cases hlt : k < n
      · rcases hc.out with h0 | ⟨b0, off, rfl, hb0, hcc⟩
        · exact absurd h0 (by rw [hn.out]; omega)
        · obtain ⟨q0, q1, q2⟩ := hcc k (by rw [hn.out]; exact hlt)
          have q0 := (hnx.out.cell (p := ⟨b0, off + k * 3, none⟩) hb0).trans q0
          have q1 := (hnx.out.cell (p := ⟨b0, off + k * 3 + 1, none⟩) hb0).trans q1
          have q2 := (hnx.out.cell (p := ⟨b0, off + k * 3 + 2, none⟩) hb0).trans q2
          have hcc := Lib.hid hcc
          have hlt2 := Lib.hid (show k < C.length by rw [hn.out]; exact hlt)
          obtain ⟨c, hce⟩ : ∃ c, Hid (C.getD k nocm = c) := ⟨_, Lib.hid rfl⟩
          rw [hce.out] at q0 q1 q2
          obtain ⟨x, y, z⟩ := c
          dsimp only at q0 q1 q2
          have hb0' : b0 < wr.heap.size := by omega
          clear hc
          go_wp2_with fail
          refine (act_any x y z _).mono ?_
          rintro e w2 ⟨rfl, B⟩
          have s2 : wr.heap.size + 1 ≤ w2.heap.size := by simpa using B.size
          have hO3 := Lib.hid ((hO2.out.alloc (.cells #[.int .i64 x, .int .i64 y, .int .i64 z] 25)).up B (by simp; omega))
          have hC3 := Lib.hid ((hC2.out.alloc (.cells #[.int .i64 x, .int .i64 y, .int .i64 z] 25)).same (B.block b (by simp; omega)))
          have D2 := Lib.hid ((hnx.out.alloc (by omega) (.cells #[.int .i64 x, .int .i64 y, .int .i64 z] 25)).trans (B.mono (by simp; omega)))
          clear B q0 q1 q2 hO2 hC2 hnx
          cases hv : cvB x y z
          · have hr := Lib.hid (runR_3 (L := L) (okC_bad hlt2.out hce.out hv))
            clear hv
            go_wp2_with fail
            go_ret3
            rw [hr.out]
            exact ⟨w2.heap.size, _, w2.heap.size + 1, _, by omega, by omega, by omega, rfl, (two_nil w2).1, (two_nil w2).2, (D2.out.alloc (by omega) _).alloc (by simp; omega) _⟩
          · have hv := Lib.hid hv
            go_wp2_with fail
            refine (run_any b _ x y z _ hC3.out hS2.out hv.out).mono ?_
            rintro e w3 ⟨rfl, hC4, K⟩
            have s3 := K.size
            have hO4 := hO3.out.same (K.block _ hO3.out.lt (by omega))
            have D3 := Lib.hid (D2.out.trans ((K.mono D2.out.size).below (by omega)))
            have hNX := Lib.hid (runS_next L hlt2.out hce.out)
            have oc := hO4.cell k (by rw [hM.out]; exact hlt)
            have of := hO4.free k
            have ol := hO4.lt
            generalize M.getD k 0 = m0 at oc
            obtain ⟨res, hres⟩ : ∃ res, Hid (stepN (runS L (C.take k)).1 x y z = res) := ⟨_, Lib.hid rfl⟩
            rw [hres.out] at hNX ⊢
            have hO5 := Lib.hid (hO4.set k res)
            have hC5 := Lib.hid (hC4.same (heap_setCell_other w3 ⟨w1.heap.size, k, none⟩ b (.int .i64 res) (by simp; omega)))
            have hS5 := Lib.hid (stV_step hS2.out hv.out)
            clear hC4 hO4 K hO3 hC3 D2 hS2
            go_wp2_with fail
            go_roundw
            case rel =>
              refine ⟨k + 1, by omega, by go_num, M.set k res, by rw [List.length_set]; exact hM.out, ?_, hO5.out, ?_, ?_, up_to hV.out (by rw [hce.out]; exact hv.out), D3.out.setCell (by simp; omega) _⟩
              · rw [take_set_succ (by rw [hM.out]; exact hlt), hT.out, hNX.out]
              · rw [hNX.out]; exact hC5.out
              · rw [hNX.out]; exact hS5.out
            case measure => simp [intOf]; omega
      · obtain rfl : k = n := by omega
        have hfull : C.take k = C := by rw [← hn.out]; exact List.take_length
        have hok : okC C = true := okC_end (fun j hj => hV.out j (by rw [← hn.out]; exact hj))
        have hr := runR_yes hs.out (C := C) (by rw [hn.out]; exact hn20) hok
        have hMf : M = (runS L C).2 := by
          have e := hT.out
          rw [hfull] at e
          rw [← e, ← hM.out]; exact List.take_length.symm
        have hr := Lib.hid hr
        have hMf := Lib.hid hMf
        have hCf := Lib.hid (show Cel wr b (runS L C).1 by rw [← hfull]; exact hC2.out)
        clear hfull hok
        go_wp2_with fail
        go_ret3
        rw [hr.out]
        exact ⟨b, _, w1.heap.size, _, hb, z1, by omega, rfl, own_cel hCf.out, by show Own wr _ _ (runS L C).2; rw [← hMf.out]; exact hO2.out, hnx.out⟩
  · have hr := Lib.hid (runR_1 (C := C) hs)
    clear hs
    go_wp2_with fail
    go_ret3
    rw [hr.out]
    exact ⟨w1.heap.size, _, w1.heap.size + 1, _, by omega, by omega, by omega, rfl, (two_nil w1).1, (two_nil w1).2, (D1.out.alloc (by omega) _).alloc (by simp; omega) _⟩

set_option maxHeartbeats 1000000 in
theorem irun_many (u : Value) (L : List Int) (a : Option Addr) (ca : Nat) (C : List Cm) (w : World) (h : Ints w u L) (hn20 : ¬ C.length ≤ 20) (hm : C.length ≤ 2000000) :
    Calls Try.prog 21 #[u, .slice a C.length ca] w (IrunPost (runR L C) w) := by
  rw [runR_2 hn20]
  have h := Lib.hid h
  generalize C.length = n at hn20 hm ⊢
  go_enter Try.func21, Try.ntmps21
  go_wp2_with fail
  refine (cof_any u L _ h.out).mono ?_
  rintro e w1 ⟨hb1, hres⟩
  have D1 := Lib.hid hb1
  have z1 := hb1.size
  clear hb1
  rcases hres with ⟨hs, b, hb, rfl, hC⟩ | ⟨hs, rfl⟩
  · clear hC hs
    go_wp2_with fail
    go_ret3
    exact ⟨w1.heap.size, _, w1.heap.size + 1, _, by omega, by omega, by omega, rfl, (two_nil w1).1, (two_nil w1).2, (D1.out.alloc (by omega) _).alloc (by simp; omega) _⟩
  · clear hs
    go_wp2_with fail
    go_ret3
    exact ⟨w1.heap.size, _, w1.heap.size + 1, _, by omega, by omega, by omega, rfl, (two_nil w1).1, (two_nil w1).2, (D1.out.alloc (by omega) _).alloc (by simp; omega) _⟩

theorem irun_any (u x : Value) (L : List Int) (C : List Cm) (w : World) (h : Ints w u L) (g : Cmds w x C) :
    Calls Try.prog 21 #[u, x] w (IrunPost (runR L C) w) := by
  obtain ⟨a, cap, rfl, h1, h2, h3⟩ := g
  by_cases hn : C.length ≤ 20
  · exact irun_at u L a cap C w h hn h3
  · exact irun_many u L a cap C w h hn h2
end Go.Proofs.Ytmekkjnegmeogaa
