/- Texts laid together. -/
import Derived.Test.YtfcjhojkfchccaaDoorC15
import Derived.Test.YtfcjhojkfchccaaDoorC21
import Derived.Test.YtfcjhojkfchccaaDoorC04
import Derived.Test.YtfcjhojkfchccaaDoorC08
import Derived.Test.YtfcjhojkfchccaaDoorC09
import Derived.Deep.RegionHeld3
/- The program's ids of a set. -/
namespace Go.Proofs.YtfcjhojkfchccaaDoor
open Go.RowKit
set_option linter.unusedVariables false

theorem TabIn.up {w w' : World} {B : Nat} (h : TabIn w) (hb : Below B w w') (hB : w.heap.size ≤ B) : TabIn w' := by
  intro j hj
  have hc := h j hj
  have hl : 0 < w.heap.size := by simpa using World.block_lt_of_cell? w _ hc
  exact (hb.cell (p := ⟨0, j, none⟩) (Nat.lt_of_lt_of_le hl hB)).trans hc

theorem make_cap (n : Nat) (hn : n ≤ 2000000) (w : World) : (Instr.makeSlice 27 (.int .i64 0) (.int .i64 n)).run Tryd.prog w = .ok (.slice (some ⟨w.heap.size, 0, none⟩) 0 n) (w.alloc (.cells (madeCells #[.int .i64 0, .int .i64 0] (n * 2)) 24)) := by
  obtain ⟨i, hi, hz, hs, hb⟩ := info_parts info_id
  have hr := run_make (P := Tryd.prog) w 27 24 i _ Tryd.underlying27 hi hz .i64 .i64 0 n (by omega) (by omega) (by rw [hb]; omega) (by omega)
  simp only [Int.toNat_natCast, hs] at hr
  exact hr
theorem madeP_size (n : Nat) : (madeCells #[.int .i64 0, .int .i64 0] (n * 2)).size = n * 2 := by simp [madeCells]
theorem row_cap (w : World) (n B : Nat) (hB : B ≤ w.heap.size) (hn : n ≤ 2000000) : Row (w.alloc (.cells (madeCells #[.int .i64 0, .int .i64 0] (n * 2)) 24)) B (.slice (some ⟨w.heap.size, 0, none⟩) 0 n) [] :=
  ⟨World.ownsRow_made _ _ n hB (by unfold maxLen; omega) (madeP_size n), by simp⟩

theorem ido_next {w w1 w2 : World} {v v' : Value} {O : List Pid} {x y : Int} {o : Obj} (hR : Row w1 w.heap.size v O) (hown : w2.ownsRow w.heap.size 24 2 v' (O.length + 1) (flatP O ++ [.int .i64 x, .int .i64 y]))
    (hg : (w1.alloc o).grownBy w2 (Value.ownBlock v)) (hn : v' ≠ .slice none 0 0) (D : Below w.heap.size w w1) : Row w2 w.heap.size v' (O ++ [(x, y)]) ∧ Below w.heap.size w w2 := by
  have hR1 : Row (w1.alloc o) w.heap.size v O := hR.up ((Below.refl _ _).alloc (Nat.le_refl _) _)
  exact ⟨hR.put hown hn, (D.alloc D.size o).trans (grown_below hR1 hg (by have := D.size; simp; omega))⟩

/-- What ids leaves. -/
def IdsoPost (f : Nat → Nat) (w : World) (e : Ending) (w' : World) : Prop :=
  ∃ b u, w.heap.size ≤ b ∧ e = .returned u ∧ OwnP w' b u (idsO f) ∧ Below w.heap.size w w'

theorem ido_len {f : Nat → Nat} {O X Y : List Pid} (h : O ++ (X ++ Y) = idsO f) : O.length ≤ 320 := by
  have := congrArg List.length h
  rw [List.length_append, idsO_len] at this
  have := manyN_le f
  omega

set_option maxRecDepth 100000 in
set_option maxHeartbeats 4000000 in
theorem idso_any (f : Nat → Nat) (w : World) (hf : ∀ r, f r < 2251799813685248) (hT : TabIn w) :
    Calls Tryd.prog 66 #[setV f] w (IdsoPost f w) := by
  obtain ⟨i0, hi, hz0, hz1, hz2⟩ := info_parts infoP
  have sm := fun w => many_any f w hf
  have hml := manyN_le f
  obtain ⟨mn, hmn⟩ : ∃ n, Hid (manyN f = n) := ⟨_, Lib.hid rfl⟩
  rw [hmn.out] at sm hml
  have hmk := make_cap mn (by omega)
  have ki : ∀ (r : Nat), r < 5 → ∀ w : World, (Instr.index 63 (.agg #[.int .u64 (f 0), .int .u64 (f 1), .int .u64 (f 2), .int .u64 (f 3), .int .u64 (f 4)]) (.int .i64 r)).run Tryd.prog w = .ok (.int .u64 (f r)) w := by
    intro r hr w
    rcases (show r = 0 ∨ r = 1 ∨ r = 2 ∨ r = 3 ∨ r = 4 by omega) with rfl | rfl | rfl | rfl | rfl
    · exact sx_i0 _ _ _ _ _ w
    · exact sx_i1 _ _ _ _ _ w
    · exact sx_i2 _ _ _ _ _ w
    · exact sx_i3 _ _ _ _ _ w
    · exact sx_i4 _ _ _ _ _ w
  have ki := Lib.hid ki
  have hf := Lib.hid hf
  have hT := Lib.hid hT
  unfold setV at sm ⊢
  go_enter Tryd.func66, Tryd.ntmps66
  go_wp2_with fail
  refine (sm _).mono ?_
  rintro e w1 ⟨rfl, hb⟩
  have A1 := (hb.block w.heap.size (by simp)).trans (heap_alloc_new w (.cells #[.int .u64 (f 0), .int .u64 (f 1), .int .u64 (f 2), .int .u64 (f 3), .int .u64 (f 4)] 63))
  have z1 : w.heap.size + 1 ≤ w1.heap.size := by simpa using hb.size
  have D1 := ((Below.refl w.heap.size w).alloc (Nat.le_refl _) (.cells #[.int .u64 (f 0), .int .u64 (f 1), .int .u64 (f 2), .int .u64 (f 3), .int .u64 (f 4)] 63)).trans (hb.mono (by simp))
  have A2 : Set5 (w1.alloc (.cells (madeCells #[.int .i64 0, .int .i64 0] (mn * 2)) 24)) w.heap.size f := (Below.heap_alloc _ _ _ (by omega)).trans A1
  obtain ⟨x0, x1, x2, x3, x4⟩ := A2.five
  have A1' : Set5 w1 w.heap.size f := A1
  obtain ⟨y0, y1, y2, y3, y4⟩ := A1'.five
  have R1 := Lib.hid (row_cap w1 mn w.heap.size (by omega) (by omega))
  have D2 := Lib.hid (D1.alloc (by omega) (.cells (madeCells #[.int .i64 0, .int .i64 0] (mn * 2)) 24))
  clear hb A1 A1' A2 D1 sm
  go_wp2_with fail
  clear hmk x0 x1 x2 x3 x4 y0 y1 y2 y3 y4 hml hmn
  go_loopw [3, 10] (fun v i wr => ∃ r : Nat, r ≤ 5 ∧ i = .int .i64 r ∧ ∃ O : List Pid, Hid (O ++ idsFrom f r (5 - r) = idsO f) ∧ Hid (Row wr w.heap.size v O) ∧ Hid (Below w.heap.size w wr)) (fun _ i _ => 5 - (intOf i).toNat)
  case atStart => exact ⟨0, Nat.zero_le _, rfl, [], Lib.hid rfl, R1, D2⟩
  case round =>
    obtain ⟨r, hr, rfl, O, hE, hR, hD⟩ := hrel
    clear R1 D2
    obtain ⟨wo, rfl⟩ : ∃ wo : World, wo = wr := ⟨_, rfl⟩
    by_cases hlt : r < 5
    · have kk := ki.out r hlt
      have hfr := Lib.hid (hf.out r)
      have hE : Hid (O ++ (bitsL r (f r) ++ idsFrom f (r + 1) (4 - r)) = idsO f) := Lib.hid (by rw [← hE.out, show 5 - r = (4 - r) + 1 by omega, idsFrom])
      go_wp2_with fail
      simp only [show decide ((r : Int) < 5) = true from decide_eq_true (by omega)]
      go_loopw [3, 5] (fun v q wr => ∃ m : Nat, Hid (m < 2251799813685248) ∧ q = .int .u64 m ∧ ∃ O : List Pid, Hid (O ++ (bitsL r m ++ idsFrom f (r + 1) (4 - r)) = idsO f) ∧ Hid (Row wr w.heap.size v O) ∧ Hid (Below w.heap.size w wr)) (fun _ q _ => (intOf q).toNat)
      case atStart => exact ⟨f r, hfr, rfl, O, hE, hR, hD⟩
      case round =>
        obtain ⟨m, hm, rfl, O, hE, hR, hD⟩ := hrel
        have hOl := ido_len hE.out
        have hm' := hm.out
        by_cases hm0 : m = 0
        · subst hm0
          have hE : Hid (O ++ idsFrom f (r + 1) (5 - (r + 1)) = idsO f) := Lib.hid (by rw [← hE.out, bitsL_zero, List.nil_append, show 5 - (r + 1) = 4 - r by omega])
          clear hm'
          go_wp2_with fail
          go_roundw
          case rel => exact ⟨r + 1, by omega, by go_num, O, hE, hR, hD⟩
          case measure => simp [intOf]; omega
        · have hm0' : ((m : Int) == 0) = false := by simpa using hm0
          have hm0n : ((m : Int) != 0) = true := by simpa using hm0
          have tz := tz_any m wr (by omega) hm0 (hT.out.up hD.out (Nat.le_refl _))
          have hE2 : Hid ((O ++ [((r : Int), ((Lib.ctz 64 m : Nat) : Int))]) ++ (bitsL r (m &&& (m - 1)) ++ idsFrom f (r + 1) (4 - r)) = idsO f) := Lib.hid (by rw [← hE.out, bitsL_cons hm0 (by omega)]; simp)
          have hless := low_less hm0
          have ws : IntKind.u64.wrap ((m : Int) - 1) = ((m - 1 : Nat) : Int) := by rw [show ((m : Int) - 1) = ((m - 1 : Nat) : Int) by omega]; exact wrapN _ (by omega)
          have wa : bits .and .u64 (m : Int) ((m - 1 : Nat) : Int) = ((m &&& (m - 1) : Nat) : Int) := bits_and_u64_nat m (m - 1) (by omega) (by omega)
          generalize m &&& (m - 1) = m' at hE2 hless wa
          generalize Lib.ctz 64 m = t at tz hE2
          obtain ⟨mp, hmp⟩ : ∃ k, Hid (m - 1 = k) := ⟨_, Lib.hid rfl⟩
          rw [hmp.out] at ws wa
          have hm2 := Lib.hid (show m' < 2251799813685248 by omega)
          clear hE hm'
          go_wp2_with fail
          refine tz.mono ?_
          rintro e w3 ⟨rfl, rfl⟩
          clear tz
          go_wp2_with (at_builtin; refine wpList_append_own _ rfl _ _ 27 rfl w.heap.size 24 i0 (.agg #[.int .i64 0, .int .i64 0]) 2 16 Tryd.underlying27 hi hz0 hz1 hz2 rfl (by decide) _ _ _ rfl (hR.out.1.alloc _) ⟨wr.heap.size, 0, none⟩ 1 1 [.int .i64 r, .int .i64 t] rfl rfl ?c1 ?c2 ?c3 ?c4 ?c5 ?_)
          case c1 => exact two_cells _ _ _ _ _ (by simp)
          case c2 => intro u hu; simp at hu; rcases hu with rfl | rfl <;> rfl
          case c3 => unfold maxLen; omega
          case c4 => omega
          case c5 => have := hD.out.size; simp; omega
          intro v' w4 hown' hgrow hnil
          have X := ido_next hR.out hown' hgrow (fun e => hnil e) hD.out
          have hR' := Lib.hid X.1
          have hD' := Lib.hid X.2
          clear X hown' hgrow hnil hR hD
          go_wp2_with fail
          go_roundw
          case rel => exact ⟨m', hm2, by go_num, _, hE2, hR', hD'⟩
          case measure => simp [intOf]; omega
    · obtain rfl : r = 5 := by omega
      have hE : Hid (O = idsO f) := Lib.hid (by rw [← hE.out]; simp [idsFrom])
      have hOl : O.length ≤ 320 := by rw [hE.out, idsO_len]; exact manyN_le f
      obtain ⟨o, ho, hown⟩ := hR.out.own (by omega)
      have hown := Lib.hid hown
      clear hR
      go_wp2_with fail
      go_ret
      exact ⟨o, _, ho, rfl, by rw [← hE.out]; exact hown.out, hD.out⟩
end Go.Proofs.YtfcjhojkfchccaaDoor

/- The program's proposal as an entry. -/
namespace Go.Proofs.YtfcjhojkfchccaaDoor
open Go.RowKit
set_option linter.unusedVariables false

theorem en_resPe (tm : Array Value) (w : World) (b : Nat) (x0 x1 x2 x3 x4 x5 x6 x7 x8 : Value) (t : TypeId) (h2 : tm[2]? = some (.pointer (some ⟨b, 0, none⟩))) (h : w.heap[b]? = some (.cells #[x0, x1, x2, x3, x4, x5, x6, x7, x8] t (0, 0))) :
    (results Tryd.f33 tm).run Tryd.prog w = .ok (.agg #[x0, x1, x2, x3, x4, x5, x6, x7, x8]) w := by
  obtain ⟨t0, t1, t2, t3, t4, t5, t6, t7, t8⟩ := nine_cells h
  simp [results, Tryd.results33, go_sem, h2, t0, t1, t2, t3, t4, t5, t6, t7, t8]
section
variable {w wc w' : World} {a : Pid} {bal k key v r : Int} {g : Nat → Nat}
theorem ppe_keep (hb : Below wc.heap.size wc w') (h : (wc.cell? ⟨w.heap.size, 0, none⟩ = some (.int .i64 a.1) ∧ wc.cell? ⟨w.heap.size, 1, none⟩ = some (.int .i64 a.2) ∧ wc.cell? ⟨w.heap.size, 2, none⟩ = some (.int .i64 bal) ∧ wc.cell? ⟨w.heap.size, 3, none⟩ = some (.int .i64 k) ∧ wc.cell? ⟨w.heap.size, 4, none⟩ = some (.int .i64 key) ∧ wc.cell? ⟨w.heap.size, 5, none⟩ = some (.int .i64 v) ∧ wc.cell? ⟨w.heap.size, 6, none⟩ = some (.int .i64 r) ∧ wc.cell? ⟨w.heap.size, 7, none⟩ = some (.int .u64 (g 0)) ∧ wc.cell? ⟨w.heap.size, 8, none⟩ = some (.int .u64 (g 1)) ∧ wc.cell? ⟨w.heap.size, 9, none⟩ = some (.int .u64 (g 2)) ∧ wc.cell? ⟨w.heap.size, 10, none⟩ = some (.int .u64 (g 3)) ∧ wc.cell? ⟨w.heap.size, 11, none⟩ = some (.int .u64 (g 4))) ∧ Below w.heap.size w wc) : (w'.cell? ⟨w.heap.size, 0, none⟩ = some (.int .i64 a.1) ∧ w'.cell? ⟨w.heap.size, 1, none⟩ = some (.int .i64 a.2) ∧ w'.cell? ⟨w.heap.size, 2, none⟩ = some (.int .i64 bal) ∧ w'.cell? ⟨w.heap.size, 3, none⟩ = some (.int .i64 k) ∧ w'.cell? ⟨w.heap.size, 4, none⟩ = some (.int .i64 key) ∧ w'.cell? ⟨w.heap.size, 5, none⟩ = some (.int .i64 v) ∧ w'.cell? ⟨w.heap.size, 6, none⟩ = some (.int .i64 r) ∧ w'.cell? ⟨w.heap.size, 7, none⟩ = some (.int .u64 (g 0)) ∧ w'.cell? ⟨w.heap.size, 8, none⟩ = some (.int .u64 (g 1)) ∧ w'.cell? ⟨w.heap.size, 9, none⟩ = some (.int .u64 (g 2)) ∧ w'.cell? ⟨w.heap.size, 10, none⟩ = some (.int .u64 (g 3)) ∧ w'.cell? ⟨w.heap.size, 11, none⟩ = some (.int .u64 (g 4))) ∧ Below w.heap.size w w' :=
  ⟨⟨cell_later hb h.1.1, cell_later hb h.1.2.1, cell_later hb h.1.2.2.1, cell_later hb h.1.2.2.2.1, cell_later hb h.1.2.2.2.2.1, cell_later hb h.1.2.2.2.2.2.1, cell_later hb h.1.2.2.2.2.2.2.1, cell_later hb h.1.2.2.2.2.2.2.2.1, cell_later hb h.1.2.2.2.2.2.2.2.2.1, cell_later hb h.1.2.2.2.2.2.2.2.2.2.1, cell_later hb h.1.2.2.2.2.2.2.2.2.2.2.1, cell_later hb h.1.2.2.2.2.2.2.2.2.2.2.2⟩, h.2.trans (hb.mono h.2.size)⟩
theorem ppe_drew (h : (wc.cell? ⟨w.heap.size, 0, none⟩ = some (.int .i64 a.1) ∧ wc.cell? ⟨w.heap.size, 1, none⟩ = some (.int .i64 a.2) ∧ wc.cell? ⟨w.heap.size, 2, none⟩ = some (.int .i64 bal) ∧ wc.cell? ⟨w.heap.size, 3, none⟩ = some (.int .i64 k) ∧ wc.cell? ⟨w.heap.size, 4, none⟩ = some (.int .i64 key) ∧ wc.cell? ⟨w.heap.size, 5, none⟩ = some (.int .i64 v) ∧ wc.cell? ⟨w.heap.size, 6, none⟩ = some (.int .i64 r) ∧ wc.cell? ⟨w.heap.size, 7, none⟩ = some (.int .u64 (g 0)) ∧ wc.cell? ⟨w.heap.size, 8, none⟩ = some (.int .u64 (g 1)) ∧ wc.cell? ⟨w.heap.size, 9, none⟩ = some (.int .u64 (g 2)) ∧ wc.cell? ⟨w.heap.size, 10, none⟩ = some (.int .u64 (g 3)) ∧ wc.cell? ⟨w.heap.size, 11, none⟩ = some (.int .u64 (g 4))) ∧ Below w.heap.size w wc) : (wc.drew.cell? ⟨w.heap.size, 0, none⟩ = some (.int .i64 a.1) ∧ wc.drew.cell? ⟨w.heap.size, 1, none⟩ = some (.int .i64 a.2) ∧ wc.drew.cell? ⟨w.heap.size, 2, none⟩ = some (.int .i64 bal) ∧ wc.drew.cell? ⟨w.heap.size, 3, none⟩ = some (.int .i64 k) ∧ wc.drew.cell? ⟨w.heap.size, 4, none⟩ = some (.int .i64 key) ∧ wc.drew.cell? ⟨w.heap.size, 5, none⟩ = some (.int .i64 v) ∧ wc.drew.cell? ⟨w.heap.size, 6, none⟩ = some (.int .i64 r) ∧ wc.drew.cell? ⟨w.heap.size, 7, none⟩ = some (.int .u64 (g 0)) ∧ wc.drew.cell? ⟨w.heap.size, 8, none⟩ = some (.int .u64 (g 1)) ∧ wc.drew.cell? ⟨w.heap.size, 9, none⟩ = some (.int .u64 (g 2)) ∧ wc.drew.cell? ⟨w.heap.size, 10, none⟩ = some (.int .u64 (g 3)) ∧ wc.drew.cell? ⟨w.heap.size, 11, none⟩ = some (.int .u64 (g 4))) ∧ Below w.heap.size w wc.drew := ⟨h.1, h.2.drew⟩
theorem ppe_set {c i : Nat} {u : Value} (hc : w.heap.size < c) (h : (wc.cell? ⟨w.heap.size, 0, none⟩ = some (.int .i64 a.1) ∧ wc.cell? ⟨w.heap.size, 1, none⟩ = some (.int .i64 a.2) ∧ wc.cell? ⟨w.heap.size, 2, none⟩ = some (.int .i64 bal) ∧ wc.cell? ⟨w.heap.size, 3, none⟩ = some (.int .i64 k) ∧ wc.cell? ⟨w.heap.size, 4, none⟩ = some (.int .i64 key) ∧ wc.cell? ⟨w.heap.size, 5, none⟩ = some (.int .i64 v) ∧ wc.cell? ⟨w.heap.size, 6, none⟩ = some (.int .i64 r) ∧ wc.cell? ⟨w.heap.size, 7, none⟩ = some (.int .u64 (g 0)) ∧ wc.cell? ⟨w.heap.size, 8, none⟩ = some (.int .u64 (g 1)) ∧ wc.cell? ⟨w.heap.size, 9, none⟩ = some (.int .u64 (g 2)) ∧ wc.cell? ⟨w.heap.size, 10, none⟩ = some (.int .u64 (g 3)) ∧ wc.cell? ⟨w.heap.size, 11, none⟩ = some (.int .u64 (g 4))) ∧ Below w.heap.size w wc) : ((wc.setCell ⟨c, i, none⟩ u).cell? ⟨w.heap.size, 0, none⟩ = some (.int .i64 a.1) ∧ (wc.setCell ⟨c, i, none⟩ u).cell? ⟨w.heap.size, 1, none⟩ = some (.int .i64 a.2) ∧ (wc.setCell ⟨c, i, none⟩ u).cell? ⟨w.heap.size, 2, none⟩ = some (.int .i64 bal) ∧ (wc.setCell ⟨c, i, none⟩ u).cell? ⟨w.heap.size, 3, none⟩ = some (.int .i64 k) ∧ (wc.setCell ⟨c, i, none⟩ u).cell? ⟨w.heap.size, 4, none⟩ = some (.int .i64 key) ∧ (wc.setCell ⟨c, i, none⟩ u).cell? ⟨w.heap.size, 5, none⟩ = some (.int .i64 v) ∧ (wc.setCell ⟨c, i, none⟩ u).cell? ⟨w.heap.size, 6, none⟩ = some (.int .i64 r) ∧ (wc.setCell ⟨c, i, none⟩ u).cell? ⟨w.heap.size, 7, none⟩ = some (.int .u64 (g 0)) ∧ (wc.setCell ⟨c, i, none⟩ u).cell? ⟨w.heap.size, 8, none⟩ = some (.int .u64 (g 1)) ∧ (wc.setCell ⟨c, i, none⟩ u).cell? ⟨w.heap.size, 9, none⟩ = some (.int .u64 (g 2)) ∧ (wc.setCell ⟨c, i, none⟩ u).cell? ⟨w.heap.size, 10, none⟩ = some (.int .u64 (g 3)) ∧ (wc.setCell ⟨c, i, none⟩ u).cell? ⟨w.heap.size, 11, none⟩ = some (.int .u64 (g 4))) ∧ Below w.heap.size w (wc.setCell ⟨c, i, none⟩ u) :=
  ⟨⟨cell_set u (by omega) h.1.1, cell_set u (by omega) h.1.2.1, cell_set u (by omega) h.1.2.2.1, cell_set u (by omega) h.1.2.2.2.1, cell_set u (by omega) h.1.2.2.2.2.1, cell_set u (by omega) h.1.2.2.2.2.2.1, cell_set u (by omega) h.1.2.2.2.2.2.2.1, cell_set u (by omega) h.1.2.2.2.2.2.2.2.1, cell_set u (by omega) h.1.2.2.2.2.2.2.2.2.1, cell_set u (by omega) h.1.2.2.2.2.2.2.2.2.2.1, cell_set u (by omega) h.1.2.2.2.2.2.2.2.2.2.2.1, cell_set u (by omega) h.1.2.2.2.2.2.2.2.2.2.2.2⟩, h.2.setCell (p := ⟨c, i, none⟩) (by show w.heap.size ≤ c; omega) u⟩
end

set_option maxRecDepth 100000 in
set_option maxHeartbeats 4000000 in
theorem ientryP_any (a : Pid) (bal k key v r : Int) (g : Nat → Nat) (w : World) (hg : ∀ r, g r < 2251799813685248) (hT : TabIn w) :
    Calls Tryd.prog 33 #[prV a bal k key v r g] w fun e w' => ∃ b u, w.heap.size ≤ b ∧ e = .returned (env ⟨a, bal, 1, k, key, v, r, idsO g⟩ u) ∧ OwnP w' b u (idsO g) ∧ Below w.heap.size w w' := by
  have ido := fun W (hb : Below w.heap.size w W) => idso_any g W hg (TabIn.up hT hb (Nat.le_refl _))
  unfold setV IdsoPost at ido
  unfold prV env
  dsimp only
  have A0 := (Below.heap_alloc _ (.cells #[.int .i64 0, .int .i64 0, .int .i64 0, .int .i64 0, .int .i64 0, .int .i64 0, .int .i64 0, .int .i64 0, .slice none 0 0] 29) _ (by simp)).trans (heap_alloc_new w (.cells #[.int .i64 a.1, .int .i64 a.2, .int .i64 bal, .int .i64 k, .int .i64 key, .int .i64 v, .int .i64 r, .int .u64 (g 0), .int .u64 (g 1), .int .u64 (g 2), .int .u64 (g 3), .int .u64 (g 4)] 67))
  have R0 := Lib.hid (heap_alloc_at (w.alloc (.cells #[.int .i64 a.1, .int .i64 a.2, .int .i64 bal, .int .i64 k, .int .i64 key, .int .i64 v, .int .i64 r, .int .u64 (g 0), .int .u64 (g 1), .int .u64 (g 2), .int .u64 (g 3), .int .u64 (g 4)] 67)) (.cells #[.int .i64 0, .int .i64 0, .int .i64 0, .int .i64 0, .int .i64 0, .int .i64 0, .int .i64 0, .int .i64 0, .slice none 0 0] 29) (w.heap.size + 1) (by simp))
  have D0 := ((Below.refl w.heap.size w).alloc (Nat.le_refl _) (.cells #[.int .i64 a.1, .int .i64 a.2, .int .i64 bal, .int .i64 k, .int .i64 key, .int .i64 v, .int .i64 r, .int .u64 (g 0), .int .u64 (g 1), .int .u64 (g 2), .int .u64 (g 3), .int .u64 (g 4)] 67)).alloc (by simp) (.cells #[.int .i64 0, .int .i64 0, .int .i64 0, .int .i64 0, .int .i64 0, .int .i64 0, .int .i64 0, .int .i64 0, .slice none 0 0] 29)
  have H0 := Lib.hid (show (((w.alloc (.cells #[.int .i64 a.1, .int .i64 a.2, .int .i64 bal, .int .i64 k, .int .i64 key, .int .i64 v, .int .i64 r, .int .u64 (g 0), .int .u64 (g 1), .int .u64 (g 2), .int .u64 (g 3), .int .u64 (g 4)] 67)).alloc (.cells #[.int .i64 0, .int .i64 0, .int .i64 0, .int .i64 0, .int .i64 0, .int .i64 0, .int .i64 0, .int .i64 0, .slice none 0 0] 29)).cell? ⟨w.heap.size, 0, none⟩ = some (.int .i64 a.1) ∧ ((w.alloc (.cells #[.int .i64 a.1, .int .i64 a.2, .int .i64 bal, .int .i64 k, .int .i64 key, .int .i64 v, .int .i64 r, .int .u64 (g 0), .int .u64 (g 1), .int .u64 (g 2), .int .u64 (g 3), .int .u64 (g 4)] 67)).alloc (.cells #[.int .i64 0, .int .i64 0, .int .i64 0, .int .i64 0, .int .i64 0, .int .i64 0, .int .i64 0, .int .i64 0, .slice none 0 0] 29)).cell? ⟨w.heap.size, 1, none⟩ = some (.int .i64 a.2) ∧ ((w.alloc (.cells #[.int .i64 a.1, .int .i64 a.2, .int .i64 bal, .int .i64 k, .int .i64 key, .int .i64 v, .int .i64 r, .int .u64 (g 0), .int .u64 (g 1), .int .u64 (g 2), .int .u64 (g 3), .int .u64 (g 4)] 67)).alloc (.cells #[.int .i64 0, .int .i64 0, .int .i64 0, .int .i64 0, .int .i64 0, .int .i64 0, .int .i64 0, .int .i64 0, .slice none 0 0] 29)).cell? ⟨w.heap.size, 2, none⟩ = some (.int .i64 bal) ∧ ((w.alloc (.cells #[.int .i64 a.1, .int .i64 a.2, .int .i64 bal, .int .i64 k, .int .i64 key, .int .i64 v, .int .i64 r, .int .u64 (g 0), .int .u64 (g 1), .int .u64 (g 2), .int .u64 (g 3), .int .u64 (g 4)] 67)).alloc (.cells #[.int .i64 0, .int .i64 0, .int .i64 0, .int .i64 0, .int .i64 0, .int .i64 0, .int .i64 0, .int .i64 0, .slice none 0 0] 29)).cell? ⟨w.heap.size, 3, none⟩ = some (.int .i64 k) ∧ ((w.alloc (.cells #[.int .i64 a.1, .int .i64 a.2, .int .i64 bal, .int .i64 k, .int .i64 key, .int .i64 v, .int .i64 r, .int .u64 (g 0), .int .u64 (g 1), .int .u64 (g 2), .int .u64 (g 3), .int .u64 (g 4)] 67)).alloc (.cells #[.int .i64 0, .int .i64 0, .int .i64 0, .int .i64 0, .int .i64 0, .int .i64 0, .int .i64 0, .int .i64 0, .slice none 0 0] 29)).cell? ⟨w.heap.size, 4, none⟩ = some (.int .i64 key) ∧ ((w.alloc (.cells #[.int .i64 a.1, .int .i64 a.2, .int .i64 bal, .int .i64 k, .int .i64 key, .int .i64 v, .int .i64 r, .int .u64 (g 0), .int .u64 (g 1), .int .u64 (g 2), .int .u64 (g 3), .int .u64 (g 4)] 67)).alloc (.cells #[.int .i64 0, .int .i64 0, .int .i64 0, .int .i64 0, .int .i64 0, .int .i64 0, .int .i64 0, .int .i64 0, .slice none 0 0] 29)).cell? ⟨w.heap.size, 5, none⟩ = some (.int .i64 v) ∧ ((w.alloc (.cells #[.int .i64 a.1, .int .i64 a.2, .int .i64 bal, .int .i64 k, .int .i64 key, .int .i64 v, .int .i64 r, .int .u64 (g 0), .int .u64 (g 1), .int .u64 (g 2), .int .u64 (g 3), .int .u64 (g 4)] 67)).alloc (.cells #[.int .i64 0, .int .i64 0, .int .i64 0, .int .i64 0, .int .i64 0, .int .i64 0, .int .i64 0, .int .i64 0, .slice none 0 0] 29)).cell? ⟨w.heap.size, 6, none⟩ = some (.int .i64 r) ∧ ((w.alloc (.cells #[.int .i64 a.1, .int .i64 a.2, .int .i64 bal, .int .i64 k, .int .i64 key, .int .i64 v, .int .i64 r, .int .u64 (g 0), .int .u64 (g 1), .int .u64 (g 2), .int .u64 (g 3), .int .u64 (g 4)] 67)).alloc (.cells #[.int .i64 0, .int .i64 0, .int .i64 0, .int .i64 0, .int .i64 0, .int .i64 0, .int .i64 0, .int .i64 0, .slice none 0 0] 29)).cell? ⟨w.heap.size, 7, none⟩ = some (.int .u64 (g 0)) ∧ ((w.alloc (.cells #[.int .i64 a.1, .int .i64 a.2, .int .i64 bal, .int .i64 k, .int .i64 key, .int .i64 v, .int .i64 r, .int .u64 (g 0), .int .u64 (g 1), .int .u64 (g 2), .int .u64 (g 3), .int .u64 (g 4)] 67)).alloc (.cells #[.int .i64 0, .int .i64 0, .int .i64 0, .int .i64 0, .int .i64 0, .int .i64 0, .int .i64 0, .int .i64 0, .slice none 0 0] 29)).cell? ⟨w.heap.size, 8, none⟩ = some (.int .u64 (g 1)) ∧ ((w.alloc (.cells #[.int .i64 a.1, .int .i64 a.2, .int .i64 bal, .int .i64 k, .int .i64 key, .int .i64 v, .int .i64 r, .int .u64 (g 0), .int .u64 (g 1), .int .u64 (g 2), .int .u64 (g 3), .int .u64 (g 4)] 67)).alloc (.cells #[.int .i64 0, .int .i64 0, .int .i64 0, .int .i64 0, .int .i64 0, .int .i64 0, .int .i64 0, .int .i64 0, .slice none 0 0] 29)).cell? ⟨w.heap.size, 9, none⟩ = some (.int .u64 (g 2)) ∧ ((w.alloc (.cells #[.int .i64 a.1, .int .i64 a.2, .int .i64 bal, .int .i64 k, .int .i64 key, .int .i64 v, .int .i64 r, .int .u64 (g 0), .int .u64 (g 1), .int .u64 (g 2), .int .u64 (g 3), .int .u64 (g 4)] 67)).alloc (.cells #[.int .i64 0, .int .i64 0, .int .i64 0, .int .i64 0, .int .i64 0, .int .i64 0, .int .i64 0, .int .i64 0, .slice none 0 0] 29)).cell? ⟨w.heap.size, 10, none⟩ = some (.int .u64 (g 3)) ∧ ((w.alloc (.cells #[.int .i64 a.1, .int .i64 a.2, .int .i64 bal, .int .i64 k, .int .i64 key, .int .i64 v, .int .i64 r, .int .u64 (g 0), .int .u64 (g 1), .int .u64 (g 2), .int .u64 (g 3), .int .u64 (g 4)] 67)).alloc (.cells #[.int .i64 0, .int .i64 0, .int .i64 0, .int .i64 0, .int .i64 0, .int .i64 0, .int .i64 0, .int .i64 0, .slice none 0 0] 29)).cell? ⟨w.heap.size, 11, none⟩ = some (.int .u64 (g 4))) ∧ Below w.heap.size w ((w.alloc (.cells #[.int .i64 a.1, .int .i64 a.2, .int .i64 bal, .int .i64 k, .int .i64 key, .int .i64 v, .int .i64 r, .int .u64 (g 0), .int .u64 (g 1), .int .u64 (g 2), .int .u64 (g 3), .int .u64 (g 4)] 67)).alloc (.cells #[.int .i64 0, .int .i64 0, .int .i64 0, .int .i64 0, .int .i64 0, .int .i64 0, .int .i64 0, .int .i64 0, .slice none 0 0] 29)) from ⟨(all12 A0).1, D0⟩)
  clear A0 D0 hg hT
  obtain ⟨C, hC⟩ : ∃ C, Hid (idsO g = C) := ⟨_, Lib.hid rfl⟩
  rw [hC.out] at ido ⊢
  go_enter Tryd.func33, Tryd.ntmps33
  go_upto_region 1 with fail
  generalize ((w.alloc (.cells #[.int .i64 a.1, .int .i64 a.2, .int .i64 bal, .int .i64 k, .int .i64 key, .int .i64 v, .int .i64 r, .int .u64 (g 0), .int .u64 (g 1), .int .u64 (g 2), .int .u64 (g 3), .int .u64 (g 4)] 67)).alloc (.cells #[.int .i64 0, .int .i64 0, .int .i64 0, .int .i64 0, .int .i64 0, .int .i64 0, .int .i64 0, .int .i64 0, .slice none 0 0] 29)) = w1 at R0 H0 ⊢
  have hR1 := lt_of_heap R0.out
  go_region_held3 (fun w' => (w'.cell? ⟨w.heap.size, 0, none⟩ = some (.int .i64 a.1) ∧ w'.cell? ⟨w.heap.size, 1, none⟩ = some (.int .i64 a.2) ∧ w'.cell? ⟨w.heap.size, 2, none⟩ = some (.int .i64 bal) ∧ w'.cell? ⟨w.heap.size, 3, none⟩ = some (.int .i64 k) ∧ w'.cell? ⟨w.heap.size, 4, none⟩ = some (.int .i64 key) ∧ w'.cell? ⟨w.heap.size, 5, none⟩ = some (.int .i64 v) ∧ w'.cell? ⟨w.heap.size, 6, none⟩ = some (.int .i64 r) ∧ w'.cell? ⟨w.heap.size, 7, none⟩ = some (.int .u64 (g 0)) ∧ w'.cell? ⟨w.heap.size, 8, none⟩ = some (.int .u64 (g 1)) ∧ w'.cell? ⟨w.heap.size, 9, none⟩ = some (.int .u64 (g 2)) ∧ w'.cell? ⟨w.heap.size, 10, none⟩ = some (.int .u64 (g 3)) ∧ w'.cell? ⟨w.heap.size, 11, none⟩ = some (.int .u64 (g 4))) ∧ Below w.heap.size w w') (first | (with_reducible assumption) | ((with_reducible refine ppe_set (c := w.heap.size + 1) (by omega) ?_); (with_reducible refine ppe_set (c := w.heap.size + 1) (by omega) ?_); (with_reducible refine ppe_set (c := w.heap.size + 1) (by omega) ?_); (with_reducible refine ppe_set (c := w.heap.size + 1) (by omega) ?_); (with_reducible refine ppe_set (c := w.heap.size + 1) (by omega) ?_); (with_reducible refine ppe_set (c := w.heap.size + 1) (by omega) ?_); (with_reducible refine ppe_set (c := w.heap.size + 1) (by omega) ?_); (with_reducible refine ppe_set (c := w.heap.size + 1) (by omega) ?_); (with_reducible refine ppe_set (c := w.heap.size + 1) (by omega) ?_); (with_reducible assumption)) | (with_reducible exact ppe_drew H0.out) | (with_reducible exact ppe_drew (by assumption)) | (with_reducible exact ppe_keep (by assumption) (by assumption)) | (with_reducible exact ppe_keep (by assumption) (ppe_drew (by assumption))))
    (first | (go_at_call 66; have hz5 := (by assumption : (_ ∧ _ ∧ _ ∧ _ ∧ _ ∧ _ ∧ _ ∧ _ ∧ _ ∧ _ ∧ _ ∧ _) ∧ Below w.heap.size w _).2.size; (with_reducible refine (ido _ (by assumption : (_ ∧ _ ∧ _ ∧ _ ∧ _ ∧ _ ∧ _ ∧ _ ∧ _ ∧ _ ∧ _ ∧ _) ∧ Below w.heap.size w _).2).mono ?_); rintro e w' ⟨b5, u5, hb5, rfl, O5, hb⟩; obtain ⟨c5, rfl⟩ : ∃ c, u5 = .slice (some ⟨b5, 0, none⟩) C.length c := (by obtain ⟨c, e, _⟩ := O5.shape; exact ⟨_, e⟩); have hz1 := lt_of_heap R0.out; have O5 := Lib.hid O5; replace R0 := Lib.hid (by first | exact bblk hb (lt_of_heap R0.out) R0.out | exact bblk_d hb (lt_of_heap R0.out) R0.out); obtain ⟨⟨y0, y1, y2, y3, y4, y5, y6, y7, y8⟩, ⟨g0, g1, g2, g3, g4, g5, g6, g7, g8⟩, hzl⟩ := nine_all R0.out))
  rename_i H5
  have D5 := Lib.hid (show (_ ∧ _ ∧ _ ∧ _ ∧ _ ∧ _ ∧ _ ∧ _ ∧ _ ∧ _ ∧ _ ∧ _) ∧ Below w.heap.size w _ from H5).2
  have hb5' : w.heap.size + 1 < b5 := by first | omega | (simp at hb5; omega)
  go_wp2_with fail
  refine bodyPost_ret (en_resPe _ _ _ _ _ _ _ _ _ _ _ _ _ rfl (put9_at _ _ _ _ _ _ _ _ _ R0.out)) rfl ⟨b5, _, by omega, rfl, O5.out.same (put9_other _ _ _ _ _ _ _ _ _ (by omega)), D5.out⟩
end Go.Proofs.YtfcjhojkfchccaaDoor
