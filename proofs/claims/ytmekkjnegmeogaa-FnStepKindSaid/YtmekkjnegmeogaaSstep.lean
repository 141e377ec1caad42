/- The model's l2Step and StateStep. -/
import Derived.Test.YtmekkjnegmeogaaIstep
namespace Go.Proofs.Ytmekkjnegmeogaa
open Go.RowKit
set_option linter.unusedVariables false

theorem Own.shape {w : World} {b : Nat} {u : Value} {L : List Int} (h : Own w b u L) : ∃ cap, u = .slice (some ⟨b, 0, none⟩) L.length cap ∧ L.length ≤ cap := by
  obtain ⟨cap, cur, t, e, h1, h2, _⟩ := h
  exact ⟨cap, e, h2⟩
theorem Own.cell {w : World} {b : Nat} {u : Value} {L : List Int} (h : Own w b u L) (m : Nat) (hm : m < L.length) : w.cell? ⟨b, m, none⟩ = some (.int .i64 (L.getD m 0)) := by
  obtain ⟨cap, cur, t, rfl, h1, h2, h3, h4, h5⟩ := h
  rw [cell_of_cells h1]
  have e := ints_get hm
  rw [← h5, List.getElem?_take, if_pos hm] at e
  rw [List.getD_eq_getElem?_getD, List.getElem?_eq_getElem hm]
  simpa using e
theorem Own.free {w : World} {b : Nat} {u : Value} {L : List Int} (h : Own w b u L) (m : Nat) : w.frozen? ⟨b, m, none⟩ = false := by
  obtain ⟨cap, cur, t, e, h1, _⟩ := h
  simp [World.frozen?, h1]
theorem Own.set {w : World} {b : Nat} {u : Value} {L : List Int} (h : Own w b u L) (m : Nat) (x : Int) : Own (w.setCell ⟨b, m, none⟩ (.int .i64 x)) b u (L.set m x) := by
  obtain ⟨cap, cur, t, rfl, h1, h2, h3, h4, h5⟩ := h
  refine ⟨cap, cur.setIfInBounds m (.int .i64 x), t, by simp, heap_setCell_same w b m _ _ _ h1, by simpa using h2, by simpa using h3, by simpa using h4, ?_⟩
  rw [Array.toList_setIfInBounds, List.length_set, List.take_set, h5]
  simp [ints, List.map_set]
theorem Own.alloc {w : World} {b : Nat} {u : Value} {L : List Int} (h : Own w b u L) (o : Obj) : Own (w.alloc o) b u L := h.same (Below.heap_alloc _ _ _ h.lt)
theorem Own.drewN {w : World} {b : Nat} {u : Value} {L : List Int} (h : Own w b u L) (n : Nat) : Own (w.drewN n) b u L := h
theorem Own.setOther {w : World} {b : Nat} {u : Value} {L : List Int} (h : Own w b u L) {p : Addr} (hp : p.block ≠ b) (x : Value) : Own (w.setCell p x) b u L :=
  h.same (heap_setCell_other w p b x (fun e => hp e.symm))
theorem Own.drew {w : World} {b : Nat} {u : Value} {L : List Int} (h : Own w b u L) : Own w.drew b u L := h

theorem info_int : (Try.prog.info? 3).map (fun i => (i.zero, i.size, i.bytes)) = some (some (.int .i64 0), 1, 8) := by kernel_rfl

/-- What l2Step leaves. -/
def L2Post (L : List Int) (k key v : Int) (w : World) (e : Ending) (w' : World) : Prop :=
  ∃ b u, w.heap.size ≤ b ∧ e = .returned (.tuple #[u, .int .i64 (stepN L k key v)]) ∧ Own w' b u (stepL L k key v) ∧ Below w.heap.size w w'

theorem src_cells {w : World} {b off : Nat} {L : List Int} (h : ∀ i, i < L.length → w.cell? ⟨b, off + i, none⟩ = some (.int .i64 (L.getD i 0))) : ∀ j u, (ints L)[j]? = some u → w.cell? ((⟨b, off, none⟩ : Addr).add j) = some u := by
  intro j u hj
  have hl : j < L.length := by
    rcases Nat.lt_or_ge j L.length with h | h
    · exact h
    · rw [List.getElem?_eq_none (by rw [ints_len]; exact h)] at hj; exact absurd hj (by simp)
  rw [ints_get hl] at hj
  injection hj with hj
  subst hj
  have e := h j hl
  rw [List.getD_eq_getElem?_getD, List.getElem?_eq_getElem hl] at e
  have a : (⟨b, off, none⟩ : Addr).add j = ⟨b, off + j, none⟩ := by unfold Addr.add; split <;> simp_all
  rw [a]; exact e

theorem one_cells (L : List Int) : ∀ u ∈ ints L, u.oneCell' = true := by
  intro u hu
  simp only [ints, List.mem_map] at hu
  obtain ⟨x, _, rfl⟩ := hu
  rfl

/-- Behind 'append([]int{}, state...)'. -/
def CopyPost (L : List Int) (w : World) (B : Nat) (u : Value) (w' : World) : Prop := ∃ g, B ≤ g ∧ Own w' g u L ∧ Below B w w'

set_option maxHeartbeats 2000000 in
theorem l2_at (b off ca : Nat) (L : List Int) (k key v : Int) (w : World) (hb : b < w.heap.size) (hL : stV L = true) (hcv : cvB k key v = true)
    (h : ∀ i, i < L.length → w.cell? ⟨b, off + i, none⟩ = some (.int .i64 (L.getD i 0))) :
    Calls Try.prog 44 #[.slice (some ⟨b, off, none⟩) 6 ca, .agg #[.int .i64 k, .int .i64 key, .int .i64 v]] w (L2Post L k key v w) := by
  have hlen := Lib.hid (stV_len hL)
  obtain ⟨i0, hi, hz0, hz1, hz2⟩ := info_parts info_int
  have hh := cv_of hcv
  have h := Lib.hid h
  have hL := Lib.hid hL
  clear hcv
  have hown0 : ((w.alloc (.cells #[.int .i64 k, .int .i64 key, .int .i64 v] 25)).alloc (.cells #[] 3)).ownsRow (w.heap.size + 1) 3 1 (.slice (some ⟨w.heap.size + 1, 0, none⟩) 0 0) 0 [] := by
    have X := World.ownsRow_made (e := 3) (size := 1) (base := w.heap.size + 1) (w := w.alloc (.cells #[.int .i64 k, .int .i64 key, .int .i64 v] 25)) #[] 0 (by simp) (Nat.zero_le _) rfl
    have e : (w.alloc (.cells #[.int .i64 k, .int .i64 key, .int .i64 v] 25)).heap.size = w.heap.size + 1 := by simp
    rw [e] at X; exact X
  have hown0 := Lib.hid hown0
  go_enter Try.func44, Try.ntmps44
  go_wp2_with (at_builtin; refine wpList_append_own _ rfl _ _ 23 rfl (w.heap.size + 1) 3 i0 (.int .i64 0) 1 8 Try.underlying23 hi hz0 hz1 hz2 rfl (by decide) _ 0 [] rfl hown0.out ⟨b, off, none⟩ 6 ca (ints L) rfl (by rw [ints_len, hlen.out]) ?c1 ?c2 ?c3 ?c4 ?c5 ?_)
  case c1 =>
    refine src_cells (fun i hi => ?_)
    rw [← h.out i hi]
    exact (((Below.refl w.heap.size w).alloc (Nat.le_refl _) _).alloc (by simp) _).cell (p := ⟨b, off + i, none⟩) hb
  case c2 => exact one_cells L
  case c3 => unfold maxLen; omega
  case c4 => omega
  case c5 => simp
  intro v' w1 hown' hgrow hnil
  have hown2 : w1.ownsRow (w.heap.size + 1) 3 1 v' 6 (ints L) := by simpa using hown'
  obtain ⟨g, hg, hO⟩ := Own.of_row hown2 hlen.out.symm (by have := hlen.out; omega) (fun e => by first | exact hnil e | (have := (hnil.1 e).1; simp at this))
  have D1 := (((Below.refl w.heap.size w).alloc (Nat.le_refl _) (.cells #[.int .i64 k, .int .i64 key, .int .i64 v] 25)).alloc (by simp) (.cells #[] 3)).grown hgrow (by simp; omega) (fun j hj => Nat.le_trans (Nat.le_succ _) (hown0.out.lt j hj).1)
  have A1 := (hgrow.block w.heap.size (by simp; omega) (by simp [Value.ownBlock])).trans ((Below.heap_alloc _ _ _ (by simp)).trans (heap_alloc_new w _))
  obtain ⟨a1, a2, a3, _, _, _⟩ := blk3 A1
  obtain ⟨cap, rfl, hcap⟩ := hO.shape
  have hlo := hO.lt
  have hfr := hO.free
  have hce := hO.cell
  have hgs := hgrow.size
  rw [hlen.out] at hce hcap
  rw [hlen.out] at hO
  have hO := Lib.hid hO
  have D1 := Lib.hid D1
  have hgw : w.heap.size < w1.heap.size := by simp at hgs; omega
  clear hown' hgrow hown2 hown0 hnil A1 hgs
  rcases hh with ⟨rfl, h1, h2, rfl⟩ | ⟨rfl, h1, h2, h3, h4⟩ | ⟨rfl, h1, h2, h3, h4⟩ | ⟨rfl, rfl, rfl⟩
  · obtain ⟨m, rfl⟩ := Int.eq_ofNat_of_zero_le h1
    have hc := hce m (by omega)
    clear hce h
    rw [hlen.out]
    go_wp2_with fail
    go_quiet (fail)
    go_wp2_with fail
    go_ret2
    exact ⟨g, _, by omega, rfl, hO.out.drewN _, bdrewN D1.out _⟩
  · obtain ⟨m, rfl⟩ := Int.eq_ofNat_of_zero_le h1
    have hc := hce m (by omega)
    clear hce h
    rw [hlen.out]
    go_wp2_with fail
    go_ret2
    refine ⟨g, _, by omega, rfl, ?_, D1.out.setCell (by simp; omega) _⟩
    rw [stepL_p]
    exact hO.out.set m v
  · obtain ⟨m, rfl⟩ := Int.eq_ofNat_of_zero_le h1
    have hc := hce m (by omega)
    clear hce h
    obtain ⟨x, hx⟩ : ∃ x, Hid (L.getD m 0 = x) := ⟨_, Lib.hid rfl⟩
    have hx0 := (stV_get hL.out m).1
    have hx1 := (stV_get hL.out m).2
    rw [hx.out] at hc hx0 hx1
    rw [hlen.out]
    go_wp2_with fail
    go_region
    all_goals
      go_wp2_with fail
      go_ret2
      refine ⟨g, _, by omega, rfl, ?_, (D1.out.setCell (by simp; omega) _).drew⟩
      rw [stepL_a, hx.out]
      exact hO.out.set m ((x + v) % 1000)
  · clear hce h
    rw [hlen.out]
    go_wp2_with fail
    go_ret2
    exact ⟨g, _, by omega, rfl, hO.out, D1.out⟩

theorem l2_any (u : Value) (L : List Int) (k key v : Int) (w : World) (h : Ints w u L) (hL : stV L = true) (hcv : cvB k key v = true) :
    Calls Try.prog 44 #[u, .agg #[.int .i64 k, .int .i64 key, .int .i64 v]] w (L2Post L k key v w) := by
  have hl := stV_len hL
  obtain ⟨a, cap, rfl, h1, h2, h3⟩ := h.cells
  rcases h3 with h3 | ⟨b, off, rfl, h4, h5⟩
  · omega
  · rw [hl]
    exact l2_at b off cap L k key v w h4 hL hcv h5

set_option maxHeartbeats 1000000 in
theorem sstep_any (u : Value) (L : List Int) (k key v : Int) (w : World) (h : Ints w u L) :
    Calls Try.prog 17 #[u, .agg #[.int .i64 k, .int .i64 key, .int .i64 v]] w (StepPost (stepR L k key v) w) := by
  have h := Lib.hid h
  go_enter Try.func17, Try.ntmps17
  go_wp2_with fail
  refine (sstv_any u L _ (h.out.up ((Below.refl _ _).alloc (Nat.le_refl _) _) (Nat.le_refl _))).mono ?_
  rintro e w1 ⟨rfl, hb1⟩
  have A1 := (hb1.block w.heap.size (by simp)).trans (heap_alloc_new w _)
  obtain ⟨a1, a2, a3, _, _, _⟩ := blk3 A1
  have z1 : w.heap.size + 1 ≤ w1.heap.size := by simpa using hb1.size
  have D1 := Lib.hid (((Below.refl _ _).alloc (Nat.le_refl _) _).trans (hb1.mono (by simp)))
  have A1 := Lib.hid A1
  clear hb1
  cases hs : stV L
  · have hr := Lib.hid (stepR_no1 (k := k) (key := key) (v := v) hs)
    clear hs
    go_wp2_with fail
    go_ret3
    rw [hr.out]
    exact ⟨w1.heap.size, _, by omega, rfl, own_nil _ _, D1.out.alloc (by omega) _⟩
  · have hs := Lib.hid hs
    go_wp2_with fail
    refine (svalid_any k key v _).mono ?_
    rintro e w2 ⟨rfl, hb2⟩
    have A2 := (hb2.block w.heap.size (by omega)).trans A1.out
    clear a1 a2 a3
    obtain ⟨a1, a2, a3, _, _, _⟩ := blk3 A2
    have D2 := Lib.hid (D1.out.trans (hb2.mono (by omega)))
    have z2 := hb2.size
    clear hb2 D1 A1 A2
    cases hv : cvB k key v
    · have hr := Lib.hid (stepR_no2 (L := L) hv)
      clear hv
      go_wp2_with fail
      go_ret3
      rw [hr.out]
      exact ⟨w2.heap.size, _, by omega, rfl, own_nil _ _, D2.out.alloc (by omega) _⟩
    · have hr := Lib.hid (stepR_yes (L := L) hs.out hv)
      have hv := Lib.hid hv
      go_wp2_with fail
      refine (l2_any u L k key v _ (h.out.up D2.out (Nat.le_refl _)) hs.out hv.out).mono ?_
      rintro e w3 ⟨b, x, hb, rfl, hO, hb3⟩
      have D3 := Lib.hid (D2.out.trans (hb3.mono (by omega)))
      have hO := Lib.hid hO
      clear hb3 D2 a1 a2 a3
      go_wp2_with fail
      go_ret3
      rw [hr.out]
      exact ⟨b, _, by omega, rfl, hO.out, D3.out⟩
end Go.Proofs.Ytmekkjnegmeogaa
