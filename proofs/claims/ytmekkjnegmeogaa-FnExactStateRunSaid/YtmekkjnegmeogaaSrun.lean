/- The model's StateRun. -/
import Derived.Test.YtmekkjnegmeogaaIrun
namespace Go.Proofs.Ytmekkjnegmeogaa
open Go.RowKit
set_option linter.unusedVariables false

/-- What StateRun of the model leaves. -/
def SrunPost (R : List Int × List Int × Bool) (w : World) (e : Ending) (w' : World) : Prop :=
  ∃ b u b' u', e = .returned (.tuple #[u, u', .bool R.2.2]) ∧ Own w' b u R.1 ∧ Own w' b' u' R.2.1 ∧ Below w.heap.size w w'

/-- Behind 'append([]int{}, state...)', the results' block being there. -/
theorem copy_row {w w1 : World} {v' : Value} {L : List Int} {base : Nat} (hO : w1.ownsRow base 3 1 v' (0 + L.length) ([] ++ ints L)) (hl : L.length ≤ 2000000) (hn : v' = .slice none 0 0 → False) : ∃ g, base ≤ g ∧ Own w1 g v' L :=
  Own.of_row (by simpa using hO) rfl hl hn

/-- The relation of the loop. -/
def SrunRel (L : List Int) (C : List Cm) (w : World) (k : Nat) (r o : Value) (wr : World) : Prop :=
  (∃ g, Own wr g o (runS L (C.take k)).1) ∧ wr.ownsRow w.heap.size 3 1 r k (ints (runS L (C.take k)).2) ∧ r ≠ .slice none 0 0 ∧ stV (runS L (C.take k)).1 = true ∧
    (∀ j, j < k → cvB (C.getD j nocm).1 (C.getD j nocm).2.1 (C.getD j nocm).2.2 = true) ∧ Below w.heap.size w wr

set_option maxHeartbeats 4000000 in
theorem srun_at (b0 o0 c0 : Nat) (L : List Int) (a : Option Addr) (ca : Nat) (C : List Cm) (w : World) (hb0 : b0 < w.heap.size) (hi0 : ∀ i, i < L.length → w.cell? ⟨b0, o0 + i, none⟩ = some (.int .i64 (L.getD i 0))) (hL : stV L = true) (hn20 : C.length ≤ 20) (hc : C.length = 0 ∨ ∃ b off, a = some ⟨b, off, none⟩ ∧ b < w.heap.size ∧ ∀ i, i < C.length →
    w.cell? ⟨b, off + i * 3, none⟩ = some (.int .i64 (C.getD i nocm).1) ∧ w.cell? ⟨b, off + i * 3 + 1, none⟩ = some (.int .i64 (C.getD i nocm).2.1) ∧ w.cell? ⟨b, off + i * 3 + 2, none⟩ = some (.int .i64 (C.getD i nocm).2.2)) :
    Calls Try.prog 22 #[.slice (some ⟨b0, o0, none⟩) L.length c0, .slice a C.length ca] w (SrunPost (runR L C) w) := by
  obtain ⟨i0, hi, hz0, hz1, hz2⟩ := info_parts info_int
  have hc := Lib.hid hc
  have hlen := Lib.hid (stV_len hL)
  have hi0 := Lib.hid hi0
  obtain ⟨n, hn⟩ : ∃ n, Hid (C.length = n) := ⟨_, Lib.hid rfl⟩
  rw [hn.out] at hn20 ⊢
  have hL := Lib.hid hL
  have hown0 : (w.alloc (.cells #[] 3)).ownsRow w.heap.size 3 1 (.slice (some ⟨w.heap.size, 0, none⟩) 0 0) 0 [] := World.ownsRow_made _ #[] 0 (Nat.le_refl _) (Nat.zero_le _) rfl
  have hown0 := Lib.hid hown0
  go_enter Try.func22, Try.ntmps22
  go_wp2_with fail
  refine (sstv_at b0 o0 c0 L _ (by have := hlen.out; omega) (by simp; omega) (fun i hi => (((Below.refl w.heap.size w).alloc (Nat.le_refl _) _).cell (p := ⟨b0, o0 + i, none⟩) hb0).trans (hi0.out i hi))).mono ?_
  rintro e w1 ⟨rfl, B⟩
  rw [hL.out]
  have z1 : w.heap.size + 1 ≤ w1.heap.size := by simpa using B.size
  have hown1 := Lib.hid (hown0.out.kept (row := none) ⟨B.os, B.tape, B.output, B.size, fun k hk _ => B.block k hk⟩ (.inr (by simp [Value.ownBlock])))
  have D1 := Lib.hid (((Below.refl w.heap.size w).alloc (Nat.le_refl _) (.cells #[] 3)).trans (B.mono (by simp)))
  clear hown0 B
  have hE : (w1.alloc (.cells #[] 3)).ownsRow w1.heap.size 3 1 (.slice (some ⟨w1.heap.size, 0, none⟩) 0 0) 0 [] := World.ownsRow_made _ #[] 0 (Nat.le_refl _) (Nat.zero_le _) rfl
  have hE := Lib.hid hE
  go_wp2_with (at_builtin; refine wpList_append_own _ rfl _ _ 23 rfl w1.heap.size 3 i0 (.int .i64 0) 1 8 Try.underlying23 hi hz0 hz1 hz2 rfl (by decide) _ 0 [] rfl hE.out ⟨b0, o0, none⟩ L.length c0 (ints L) rfl (by rw [ints_len]; omega) ?c1 ?c2 ?c3 ?c4 ?c5 ?_)
  case c1 =>
    refine src_cells (fun i hi => ?_)
    rw [← hi0.out i hi]
    exact (D1.out.alloc (by omega) _).cell (p := ⟨b0, o0 + i, none⟩) hb0
  case c2 => exact one_cells L
  case c3 => have := hlen.out; unfold maxLen; omega
  case c4 => have := hlen.out; omega
  case c5 => simp
  intro v' w2 hown' hgrow hnil
  obtain ⟨g, hg, hO⟩ := Own.of_row (L := L) (by simpa using hown') rfl (by have := hlen.out; omega) (fun e => by first | exact hnil e | (have := (hnil.1 e).1; simp at this))
  have hown2 := Lib.hid ((hown1.out.alloc (.cells #[] 3)).kept hgrow (.inr (by simp [Value.ownBlock]; omega)))
  have D2 := Lib.hid ((D1.out.alloc (by omega) (.cells #[] 3)).grown hgrow (by simp; omega) (fun j hj => Nat.le_trans (by omega) (hE.out.lt j hj).1))
  have hO := Lib.hid hO
  clear hown' hgrow hnil hE hown1 D1
  go_wp2_with fail
  go_loopw [7, 8, 9] (fun r o i wr => ∃ k : Nat, k ≤ n ∧ i = .int .i64 k ∧ SrunRel L C w k r o wr) (fun _ _ i _ => n - (intOf i).toNat)
  case atStart => exact ⟨0, Nat.zero_le _, rfl, ⟨g, hO.out⟩, hown2.out, by simp, hL.out, fun j hj => absurd hj (Nat.not_lt_zero _), D2.out⟩
  case round =>
    obtain ⟨k, hk, rfl, ⟨g', hO'⟩, hrow, hrn, hS, hV, hnx⟩ := hrel
    clear hO hown2 D2
    have sD := hnx.size
    have hO' := Lib.hid hO'
    have hrow := Lib.hid hrow
    have hrn := Lib.hid hrn
    have hS := Lib.hid hS
    have hV := Lib.hid hV
    have hnx := Lib.hid hnx
    by_cases hlt : k < n
    · rcases hc.out with h0 | ⟨b1, off, rfl, hb1, hcc⟩
      · exact absurd h0 (by rw [hn.out]; omega)
      · obtain ⟨q0, q1, q2⟩ := hcc k (by rw [hn.out]; exact hlt)
        have q0 := (hnx.out.cell (p := ⟨b1, off + k * 3, none⟩) hb1).trans q0
        have q1 := (hnx.out.cell (p := ⟨b1, off + k * 3 + 1, none⟩) hb1).trans q1
        have q2 := (hnx.out.cell (p := ⟨b1, off + k * 3 + 2, none⟩) hb1).trans q2
        have hcc := Lib.hid hcc
        have hlt2 := Lib.hid (show k < C.length by rw [hn.out]; exact hlt)
        obtain ⟨c, hce⟩ : ∃ c, Hid (C.getD k nocm = c) := ⟨_, Lib.hid rfl⟩
        rw [hce.out] at q0 q1 q2
        obtain ⟨x, y, z⟩ := c
        dsimp only at q0 q1 q2
        clear hc
        go_wp2_with fail
        refine (svalid_any x y z _).mono ?_
        rintro e w3 ⟨rfl, B⟩
        have s3 := B.size
        have O3 := Lib.hid (hO'.out.up B hO'.out.lt)
        have row3 := Lib.hid (hrow.out.kept (row := none) ⟨B.os, B.tape, B.output, B.size, fun k hk _ => B.block k hk⟩ (by cases hv : Value.ownBlock u7 with | none => exact .inl rfl | some j => exact .inr (by simp)))
        have D3 := Lib.hid (bstep hnx.out B)
        clear B hnx hO' hrow q0 q1 q2
        have q0 : w3.cell? ⟨b1, off + k * 3, none⟩ = some (.int .i64 x) := (D3.out.cell (p := ⟨b1, off + k * 3, none⟩) hb1).trans (by rw [(hcc.out k hlt2.out).1, hce.out])
        have q1 : w3.cell? ⟨b1, off + k * 3 + 1, none⟩ = some (.int .i64 y) := (D3.out.cell (p := ⟨b1, off + k * 3 + 1, none⟩) hb1).trans (by rw [(hcc.out k hlt2.out).2.1, hce.out])
        have q2 : w3.cell? ⟨b1, off + k * 3 + 2, none⟩ = some (.int .i64 z) := (D3.out.cell (p := ⟨b1, off + k * 3 + 2, none⟩) hb1).trans (by rw [(hcc.out k hlt2.out).2.2, hce.out])
        cases hv : cvB x y z
        · have hr := Lib.hid (runR_3 (L := L) (okC_bad hlt2.out hce.out hv))
          clear hv
          go_wp2_with fail
          go_ret3
          rw [hr.out]
          exact ⟨w3.heap.size, _, w3.heap.size + 1, _, rfl, (two_nil w3).1, (two_nil w3).2, (D3.out.alloc (by omega) _).alloc (by simp; omega) _⟩
        · have hv := Lib.hid hv
          go_wp2_with fail
          refine (l2_any u8 _ x y z _ O3.out.read hS.out hv.out).mono ?_
          rintro e w4 ⟨b4, o4, g4, rfl, O4, B⟩
          have s4 := B.size
          have hNX := Lib.hid (runS_next L hlt2.out hce.out)
          have hlen4 := Lib.hid (runS_len (C.take k) L)
          have hS4 := Lib.hid (stV_step hS.out hv.out)
          obtain ⟨res, hres⟩ : ∃ res, Hid (stepN (runS L (C.take k)).1 x y z = res) := ⟨_, Lib.hid rfl⟩
          rw [hres.out] at hNX ⊢
          have hrb := Lib.hid (fun j (hj : Value.ownBlock u7 = some j) => row3.out.lt j hj)
          have row4 := Lib.hid (row3.out.kept (row := none) ⟨B.os, B.tape, B.output, B.size, fun k hk _ => B.block k hk⟩ (by cases hv : Value.ownBlock u7 with | none => exact .inl rfl | some j => exact .inr (by simp)))
          have O4 := Lib.hid O4
          have D4 := Lib.hid (bstep D3.out B)
          clear B D3 O3 row3 hS q0 q1 q2
          go_wp2_with (at_builtin; refine wpList_append_own _ rfl _ _ 23 rfl w.heap.size 3 i0 (.int .i64 0) 1 8 Try.underlying23 hi hz0 hz1 hz2 rfl (by decide) _ _ _ rfl (row4.out.alloc _) ⟨w4.heap.size, 0, none⟩ 1 1 [.int .i64 res] rfl rfl ?d1 ?d2 ?d3 ?d4 ?d5 ?_)
          case d1 =>
            intro j u hj
            match j, hj with
            | 0, hj => simp at hj; subst hj; simp [Addr.add]
            | j + 1, hj => simp at hj
          case d2 => intro u hu; simp at hu; subst hu; rfl
          case d3 => unfold maxLen; omega
          case d4 => omega
          case d5 => simp; omega
          intro r' w5 hrow' hgrow hnil
          have O5 := Lib.hid ((O4.out.alloc (.cells #[.int .i64 res] 3)).same (hgrow.block b4 (by have := O4.out.lt; simp; omega) (fun e => by have := (hrb.out b4 e.symm).2; omega)))
          have D5 := Lib.hid ((D4.out.alloc (by omega) (.cells #[.int .i64 res] 3)).grown hgrow (by simp; omega) (fun j hj => (hrb.out j hj).1))
          have hrow5 : w5.ownsRow w.heap.size 3 1 r' (k + 1) (ints ((runS L (C.take k)).2 ++ [res])) := by simpa [ints] using hrow'
          have hrow5 := Lib.hid hrow5
          have hrn5 := Lib.hid (fun e => hrn.out (by first | exact (hnil.1 e).1 | exact absurd e (by intro e; exact hnil e)))
          clear hrow' hgrow hnil row4 O4 D4 hrn hrb
          go_wp2_with fail
          go_roundw
          case rel =>
            refine ⟨k + 1, by omega, by go_num, ⟨b4, ?_⟩, ?_, fun e => hrn5.out e, ?_, up_to hV.out (by rw [hce.out]; exact hv.out), D5.out⟩
            · rw [hNX.out]; exact O5.out
            · rw [hNX.out]; exact hrow5.out
            · rw [hNX.out]; exact hS4.out
          case measure => simp [intOf]; omega
    · obtain rfl : k = n := by omega
      have hfull : C.take k = C := by rw [← hn.out]; exact List.take_length
      have hok : okC C = true := okC_end (fun j hj => hV.out j (by rw [← hn.out]; exact hj))
      have hr := runR_yes hL.out (C := C) (by rw [hn.out]; exact hn20) hok
      have hrow2 := hrow.out
      have hO2 := hO'.out
      rw [hfull] at hrow2 hO2
      obtain ⟨gr, hgr, hOr⟩ := Own.of_row hrow2 (by rw [runS_len, hn.out]) (by rw [runS_len, hn.out]; omega) hrn.out
      have hr := Lib.hid hr
      have hO2 := Lib.hid hO2
      have hOr := Lib.hid hOr
      clear hfull hok hrow2
      go_wp2_with fail
      go_ret3
      rw [hr.out]
      exact ⟨g', _, gr, _, rfl, hO2.out, hOr.out, hnx.out⟩

set_option maxHeartbeats 1000000 in
theorem srun_no (u : Value) (L : List Int) (a : Option Addr) (n ca : Nat) (w : World) (h : Ints w u L) (hm : n ≤ 2000000) (hno : stV L = false ∨ ¬ n ≤ 20) :
    Calls Try.prog 22 #[u, .slice a n ca] w (SrunPost ([], [], false) w) := by
  have h := Lib.hid h
  have hown0 := Lib.hid (own_nil w 3)
  have hno := Lib.hid hno
  go_enter Try.func22, Try.ntmps22
  go_wp2_with fail
  refine (sstv_any u L _ (h.out.up ((Below.refl _ _).alloc (Nat.le_refl _) _) (Nat.le_refl _))).mono ?_
  rintro e w1 ⟨rfl, B⟩
  have z1 : w.heap.size + 1 ≤ w1.heap.size := by simpa using B.size
  have O1 := Lib.hid (hown0.out.up B hown0.out.lt)
  have D1 := Lib.hid (((Below.refl w.heap.size w).alloc (Nat.le_refl _) (.cells #[] 3)).trans (B.mono (by simp)))
  clear hown0 B
  cases hs : stV L
  · clear hno hs
    go_wp2_with fail
    go_ret3
    exact ⟨w1.heap.size, _, w.heap.size, _, rfl, own_nil _ _, O1.out.alloc _, D1.out.alloc (by omega) _⟩
  · have hn : ¬ n ≤ 20 := by
      rcases hno.out with h | h
      · rw [hs] at h; exact absurd h (by decide)
      · exact h
    clear hno hs
    go_wp2_with fail
    go_ret3
    exact ⟨w1.heap.size, _, w.heap.size, _, rfl, own_nil _ _, O1.out.alloc _, D1.out.alloc (by omega) _⟩

theorem srun_any (u x : Value) (L : List Int) (C : List Cm) (w : World) (h : Ints w u L) (g : Cmds w x C) :
    Calls Try.prog 22 #[u, x] w (SrunPost (runR L C) w) := by
  obtain ⟨a, cap, rfl, h1, h2, h3⟩ := g
  by_cases hs : stV L = true
  · by_cases hn : C.length ≤ 20
    · have hl := stV_len hs
      obtain ⟨a', cap', rfl, g1, g2, g3⟩ := h.cells
      rcases g3 with g3 | ⟨b, off, rfl, g4, g5⟩
      · omega
      · exact srun_at b off cap' L a cap C w g4 g5 hs hn h3
    · rw [runR_2 hn]
      exact srun_no u L a _ cap w h h2 (.inr hn)
  · rw [runR_1 (by simpa using hs)]
    exact srun_no u L a _ cap w h h2 (.inl (by simpa using hs))
end Go.Proofs.Ytmekkjnegmeogaa
