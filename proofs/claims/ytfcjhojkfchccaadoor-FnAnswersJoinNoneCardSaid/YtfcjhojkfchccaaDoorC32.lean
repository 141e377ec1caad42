/- Texts laid together. -/
import Derived.Test.YtfcjhojkfchccaaDoorC15
import Derived.Deep.RegionHeld3
/- The program's within, of sets. -/
namespace Go.Proofs.YtfcjhojkfchccaaDoor
open Go.RowKit
set_option linter.unusedVariables false

/-- Two sets are compared. -/
theorem set_eq (x0 x1 x2 x3 x4 y0 y1 y2 y3 y4 : Int) (w : World) : (binOp .eql 63 (.agg #[.int .u64 x0, .int .u64 x1, .int .u64 x2, .int .u64 x3, .int .u64 x4]) (.agg #[.int .u64 y0, .int .u64 y1, .int .u64 y2, .int .u64 y3, .int .u64 y4])).run Tryd.prog w = .ok (.bool (decide ([x0, x1, x2, x3, x4] = [y0, y1, y2, y3, y4]))) w := by
  have hp : ∀ (cs : Array Value) (k : Nat) (v : Value), cs[k]? = some v → (part 61 cs k).run Tryd.prog w = .ok v w := by
    intro cs k v h
    have ha : (isAgg 61).run Tryd.prog w = .ok false w := by kernel_rfl
    simp [part, ha, h]
  have hs : (sizeOf 61).run Tryd.prog w = .ok 1 w := by kernel_rfl
  have hu : (underlying 63).run Tryd.prog w = .ok (.array 5 61) w := by kernel_rfl
  rw [run_eql_struct, show (10000:Nat) = 9998+1+1 from rfl]
  have he : ∀ a b : Int, (Op.equalIn (9998 + 1) 61 (.int .u64 a) (.int .u64 b)).run Tryd.prog w = .ok (a == b) w := fun a b => run_equalIn_int _ _ _ _ .u64 _ _ Tryd.underlying61
  rw [Op.equalIn]
  simp [hu, hs, hp, he, Std.Legacy.Range.forIn_eq_forIn_range', Std.Legacy.Range.size, List.range'_succ, List.range'_zero, List.forIn_cons, List.forIn_nil]
  by_cases h0 : x0 = y0 <;> by_cases h1 : x1 = y1 <;> by_cases h2 : x2 = y2 <;> by_cases h3 : x3 = y3 <;> by_cases h4 : x4 = y4 <;> simp [h0, h1, h2, h3, h4]

theorem five_iff (f g : Nat → Nat) : ([(f 0 : Int), (f 1 : Int), (f 2 : Int), (f 3 : Int), (f 4 : Int)] = [(g 0 : Int), (g 1 : Int), (g 2 : Int), (g 3 : Int), (g 4 : Int)]) ↔ ∀ r, r < 5 → f r = g r := by
  constructor
  · intro h r hr
    injection h with h0 h; injection h with h1 h; injection h with h2 h; injection h with h3 h; injection h with h4 h
    rcases (show r = 0 ∨ r = 1 ∨ r = 2 ∨ r = 3 ∨ r = 4 by omega) with rfl | rfl | rfl | rfl | rfl <;> omega
  · intro h
    rw [h 0 (by omega), h 1 (by omega), h 2 (by omega), h 3 (by omega), h 4 (by omega)]

/-- What within answers. -/
def inF (f g : Nat → Nat) : Bool := decide (joinF f g 0 = g 0 ∧ joinF f g 1 = g 1 ∧ joinF f g 2 = g 2 ∧ joinF f g 3 = g 3 ∧ joinF f g 4 = g 4)
theorem five_all (P : Nat → Prop) : (P 0 ∧ P 1 ∧ P 2 ∧ P 3 ∧ P 4) ↔ ∀ r, r < 5 → P r := by
  constructor
  · rintro ⟨h0, h1, h2, h3, h4⟩ r hr
    rcases (show r = 0 ∨ r = 1 ∨ r = 2 ∨ r = 3 ∨ r = 4 by omega) with rfl | rfl | rfl | rfl | rfl <;> assumption
  · intro h
    exact ⟨h 0 (by omega), h 1 (by omega), h 2 (by omega), h 3 (by omega), h 4 (by omega)⟩
theorem inF_iff {f g : Nat → Nat} : inF f g = true ↔ ∀ r, r < 5 → joinF f g r = g r := by
  unfold inF; rw [decide_eq_true_iff]; exact five_all fun r => joinF f g r = g r

theorem ten_up {w wr w' : World} {p q : Nat} {x0 x1 x2 x3 x4 y0 y1 y2 y3 y4 : Value} (B : Below wr.heap.size wr w') (h : ((wr.cell? ⟨p, 0, none⟩ = some x0 ∧ wr.cell? ⟨p, 1, none⟩ = some x1 ∧ wr.cell? ⟨p, 2, none⟩ = some x2 ∧ wr.cell? ⟨p, 3, none⟩ = some x3 ∧ wr.cell? ⟨p, 4, none⟩ = some x4) ∧ wr.cell? ⟨q, 0, none⟩ = some y0 ∧ wr.cell? ⟨q, 1, none⟩ = some y1 ∧ wr.cell? ⟨q, 2, none⟩ = some y2 ∧ wr.cell? ⟨q, 3, none⟩ = some y3 ∧ wr.cell? ⟨q, 4, none⟩ = some y4) ∧ Below w.heap.size w wr) : ((w'.cell? ⟨p, 0, none⟩ = some x0 ∧ w'.cell? ⟨p, 1, none⟩ = some x1 ∧ w'.cell? ⟨p, 2, none⟩ = some x2 ∧ w'.cell? ⟨p, 3, none⟩ = some x3 ∧ w'.cell? ⟨p, 4, none⟩ = some x4) ∧ w'.cell? ⟨q, 0, none⟩ = some y0 ∧ w'.cell? ⟨q, 1, none⟩ = some y1 ∧ w'.cell? ⟨q, 2, none⟩ = some y2 ∧ w'.cell? ⟨q, 3, none⟩ = some y3 ∧ w'.cell? ⟨q, 4, none⟩ = some y4) ∧ Below w.heap.size w w' := by
  obtain ⟨⟨⟨a0, a1, a2, a3, a4⟩, b0, b1, b2, b3, b4⟩, d⟩ := h
  exact ⟨⟨⟨cell_later B a0, cell_later B a1, cell_later B a2, cell_later B a3, cell_later B a4⟩, cell_later B b0, cell_later B b1, cell_later B b2, cell_later B b3, cell_later B b4⟩, bstep d B⟩

set_option maxRecDepth 100000 in
set_option maxHeartbeats 4000000 in
theorem within_any (f g : Nat → Nat) (w : World) (hf : ∀ r, f r < 2251799813685248) (hg : ∀ r, g r < 2251799813685248) :
    Calls Tryd.prog 40 #[setV f, setV g] w fun e w' => e = .returned (.bool (inF f g)) ∧ Below w.heap.size w w' := by
  have sj := fun w => join_any f g w hf hg
  have se := fun w => set_eq (joinF f g 0) (joinF f g 1) (joinF f g 2) (joinF f g 3) (joinF f g 4) (g 0) (g 1) (g 2) (g 3) (g 4) w
  have hd : decide ([(joinF f g 0 : Int), (joinF f g 1 : Int), (joinF f g 2 : Int), (joinF f g 3 : Int), (joinF f g 4 : Int)] = [(g 0 : Int), (g 1 : Int), (g 2 : Int), (g 3 : Int), (g 4 : Int)]) = inF f g := by
    unfold inF; exact decide_eq_decide.2 ((five_iff _ _).trans (five_all fun r => joinF f g r = g r).symm)
  rw [hd] at se
  clear hd hf hg
  generalize joinF f g = j at sj se
  generalize inF f g = q at se ⊢
  unfold setV at sj ⊢
  go_enter Tryd.func40, Tryd.ntmps40
  go_upto_region 1 with fail
  have D0 : Hid (Below w.heap.size w ((w.alloc (.cells #[.int .u64 (f 0), .int .u64 (f 1), .int .u64 (f 2), .int .u64 (f 3), .int .u64 (f 4)] 63)).alloc (.cells #[.int .u64 (g 0), .int .u64 (g 1), .int .u64 (g 2), .int .u64 (g 3), .int .u64 (g 4)] 63)).drew) := Lib.hid (((Below.refl _ _).alloc (Nat.le_refl _) _).alloc (by simp) _).drew
  have A0 : Hid (Set5 ((w.alloc (.cells #[.int .u64 (f 0), .int .u64 (f 1), .int .u64 (f 2), .int .u64 (f 3), .int .u64 (f 4)] 63)).alloc (.cells #[.int .u64 (g 0), .int .u64 (g 1), .int .u64 (g 2), .int .u64 (g 3), .int .u64 (g 4)] 63)) w.heap.size f) := Lib.hid ((Below.heap_alloc _ _ _ (by simp)).trans (heap_alloc_new w _))
  have B0 : Hid (Set5 ((w.alloc (.cells #[.int .u64 (f 0), .int .u64 (f 1), .int .u64 (f 2), .int .u64 (f 3), .int .u64 (f 4)] 63)).alloc (.cells #[.int .u64 (g 0), .int .u64 (g 1), .int .u64 (g 2), .int .u64 (g 3), .int .u64 (g 4)] 63)) (w.heap.size + 1) g) := Lib.hid (heap_alloc_at _ _ _ (by simp))
  have hz : ((w.alloc (.cells #[.int .u64 (f 0), .int .u64 (f 1), .int .u64 (f 2), .int .u64 (f 3), .int .u64 (f 4)] 63)).alloc (.cells #[.int .u64 (g 0), .int .u64 (g 1), .int .u64 (g 2), .int .u64 (g 3), .int .u64 (g 4)] 63)).heap.size = w.heap.size + 2 := by simp
  generalize ((w.alloc (.cells #[.int .u64 (f 0), .int .u64 (f 1), .int .u64 (f 2), .int .u64 (f 3), .int .u64 (f 4)] 63)).alloc (.cells #[.int .u64 (g 0), .int .u64 (g 1), .int .u64 (g 2), .int .u64 (g 3), .int .u64 (g 4)] 63)) = W at D0 A0 B0 hz ⊢
  obtain ⟨a0, a1, a2, a3, a4⟩ := A0.out.five
  obtain ⟨b0, b1, b2, b3, b4⟩ := B0.out.five
  clear A0 B0
  have S0 : Hid (((W.cell? ⟨w.heap.size, 0, none⟩ = some (.int .u64 (f 0)) ∧ W.cell? ⟨w.heap.size, 1, none⟩ = some (.int .u64 (f 1)) ∧ W.cell? ⟨w.heap.size, 2, none⟩ = some (.int .u64 (f 2)) ∧ W.cell? ⟨w.heap.size, 3, none⟩ = some (.int .u64 (f 3)) ∧ W.cell? ⟨w.heap.size, 4, none⟩ = some (.int .u64 (f 4))) ∧ W.cell? ⟨w.heap.size + 1, 0, none⟩ = some (.int .u64 (g 0)) ∧ W.cell? ⟨w.heap.size + 1, 1, none⟩ = some (.int .u64 (g 1)) ∧ W.cell? ⟨w.heap.size + 1, 2, none⟩ = some (.int .u64 (g 2)) ∧ W.cell? ⟨w.heap.size + 1, 3, none⟩ = some (.int .u64 (g 3)) ∧ W.cell? ⟨w.heap.size + 1, 4, none⟩ = some (.int .u64 (g 4))) ∧ Below w.heap.size w W.drew) := Lib.hid ⟨⟨⟨a0, a1, a2, a3, a4⟩, b0, b1, b2, b3, b4⟩, D0.out⟩
  clear a0 a1 a2 a3 a4 b0 b1 b2 b3 b4 D0
  go_region_held3 (fun w' => ((w'.cell? ⟨w.heap.size, 0, none⟩ = some (.int .u64 (f 0)) ∧ w'.cell? ⟨w.heap.size, 1, none⟩ = some (.int .u64 (f 1)) ∧ w'.cell? ⟨w.heap.size, 2, none⟩ = some (.int .u64 (f 2)) ∧ w'.cell? ⟨w.heap.size, 3, none⟩ = some (.int .u64 (f 3)) ∧ w'.cell? ⟨w.heap.size, 4, none⟩ = some (.int .u64 (f 4))) ∧ w'.cell? ⟨w.heap.size + 1, 0, none⟩ = some (.int .u64 (g 0)) ∧ w'.cell? ⟨w.heap.size + 1, 1, none⟩ = some (.int .u64 (g 1)) ∧ w'.cell? ⟨w.heap.size + 1, 2, none⟩ = some (.int .u64 (g 2)) ∧ w'.cell? ⟨w.heap.size + 1, 3, none⟩ = some (.int .u64 (g 3)) ∧ w'.cell? ⟨w.heap.size + 1, 4, none⟩ = some (.int .u64 (g 4))) ∧ Below w.heap.size w w') (first | exact S0.out | exact ten_up (by assumption) (by assumption))
    (first | (go_at_call 78; (with_reducible refine (sj _).mono ?_); rintro e w' ⟨rfl, hb⟩))
  rename_i hHeld
  go_wp2_with fail
  go_ret
  exact ⟨rfl, hHeld.2⟩
end Go.Proofs.YtfcjhojkfchccaaDoor

/- The program's within of two sets; DepsWithin. -/
namespace Go.Proofs.YtfcjhojkfchccaaDoor
open Go.RowKit
set_option linter.unusedVariables false

theorem win_val {A B : List Pid} (ha : srtB A = true) (hb : srtB B = true) : inF (setF A) (setF B) = inP A B := by
  rw [Bool.eq_iff_iff, inF_iff]; exact within_set A B ha hb

set_option maxRecDepth 100000 in
set_option maxHeartbeats 2000000 in
theorem iwin_any (u v : Value) (A B : List Pid) (w : World) (h : Ids w u A) (g : Ids w v B) :
    Calls Tryd.prog 12 #[u, v] w fun e w' => e = .returned (.bool (withinB A B)) ∧ Below w.heap.size w w' := by
  have h := Lib.hid h
  have g := Lib.hid g
  have sw := fun w => within_any (setF A) (setF B) w (setF_lt A) (setF_lt B)
  have hv : Hid (srtB A = true → srtB B = true → inF (setF A) (setF B) = inP A B) := Lib.hid win_val
  unfold withinB
  obtain ⟨f, hf⟩ : ∃ f, Hid (setF A = f) := ⟨_, Lib.hid rfl⟩
  obtain ⟨f', hf'⟩ : ∃ f', Hid (setF B = f') := ⟨_, Lib.hid rfl⟩
  obtain ⟨qi, hqi⟩ : ∃ q, Hid (inF f f' = q) := ⟨_, Lib.hid rfl⟩
  rw [hf.out, hf'.out, hqi.out] at sw hv
  obtain ⟨qa, hqa⟩ : ∃ q, Hid (srtB A = q) := ⟨_, Lib.hid rfl⟩
  obtain ⟨qb, hqb⟩ : ∃ q, Hid (srtB B = q) := ⟨_, Lib.hid rfl⟩
  rw [hqa.out, hqb.out] at hv ⊢
  go_enter Tryd.func12, Tryd.ntmps12
  go_wp2_with fail
  refine (iset_any u A _ h.out).mono ?_
  rintro e w1 ⟨rfl, hb⟩
  rw [hf.out, hqa.out]
  have D1 := Lib.hid (hb.alloc hb.size (.cells #[.int .u64 (f 0), .int .u64 (f 1), .int .u64 (f 2), .int .u64 (f 3), .int .u64 (f 4)] 63))
  have A1 : Hid (Set5 (w1.alloc (.cells #[.int .u64 (f 0), .int .u64 (f 1), .int .u64 (f 2), .int .u64 (f 3), .int .u64 (f 4)] 63)) w1.heap.size f) := Lib.hid (heap_alloc_new w1 _)
  have hb1 := hb.size
  have g1 := Lib.hid (g.out.up D1.out (Nat.le_refl _))
  clear hb h g
  unfold setV at sw ⊢
  go_wp2_with fail
  refine (iset_any v B _ g1.out).mono ?_
  rintro e w2 ⟨rfl, hb⟩
  rw [hf'.out, hqb.out]
  unfold setV
  have hs1 : w1.heap.size < w2.heap.size := Nat.lt_of_lt_of_le (by simp) hb.size
  have A2 := A1.out.up hb (by simp)
  have A3 := Lib.hid (A2.up ((Below.refl _ _).alloc (Nat.le_refl _) (.cells #[.int .u64 (f' 0), .int .u64 (f' 1), .int .u64 (f' 2), .int .u64 (f' 3), .int .u64 (f' 4)] 63)) hs1)
  have D2 := bstep D1.out hb
  have D2 := Lib.hid (D2.alloc D2.size (.cells #[.int .u64 (f' 0), .int .u64 (f' 1), .int .u64 (f' 2), .int .u64 (f' 3), .int .u64 (f' 4)] 63))
  obtain ⟨x0, x1, x2, x3, x4⟩ := A2.five
  clear hb A1 A2 A3 D1 g1
  cases qa
  · go_wp2_with fail
    go_ret
    exact ⟨rfl, D2.out⟩
  · cases qb
    · go_wp2_with fail
      go_ret
      exact ⟨rfl, D2.out⟩
    · have hv2 := Lib.hid (hv.out rfl rfl)
      clear hv
      go_wp2_with fail
      refine (sw _).mono ?_
      rintro e w3 ⟨rfl, hb⟩
      have D3 := Lib.hid (bstep D2.out hb)
      clear hb D2 sw x0 x1 x2 x3 x4
      go_wp2_with fail
      go_ret
      exact ⟨by rw [hv2.out]; rfl, D3.out⟩
end Go.Proofs.YtfcjhojkfchccaaDoor
