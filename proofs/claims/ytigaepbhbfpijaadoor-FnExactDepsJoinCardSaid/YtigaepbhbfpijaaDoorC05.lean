/- Texts laid together. -/
import Derived.Test.YtigaepbhbfpijaaDoorC03
import Derived.Deep.RegionHeld3
import Derived.Test.YtigaepbhbfpijaaDoorC02
import Derived.Test.YtigaepbhbfpijaaDoorC01
import Derived.Deep.RegionWith
import Derived.Test.YtigaepbhbfpijaaDoorC04
import Derived.Test.YtigaepbhbfpijaaDoorRows
import Derived.ProofKit
import Derived.OpenShut
import Derived.ChangeOld
import Derived.Lib.SmallJoins
import Derived.Deep.Slices
import Derived.Test.YtigaepbhbfpijaaDoorCards
import Derived.Test.YtigaepbhbfpijaaDoorTie
import Derived.Stop.LaidErr
import Derived.Deep.DeepHandedRow
import Derived.Deep.DeepWitnessRowRef
import Derived.LaidMore
import Derived.Lib.LaidTab
import Derived.Shelf.Strconv.Itoa0
import Derived.Test.YtigaepbhbfpijaaDoorProg
/- The program's within, of sets. -/
namespace Go.Proofs.YtigaepbhbfpijaaDoor
open Go.RowKit
set_option linter.unusedVariables false

/-- Two sets are compared. -/
theorem set_eq (x0 x1 x2 x3 x4 y0 y1 y2 y3 y4 : Int) (w : World) : (binOp .eql 47 (.agg #[.int .u64 x0, .int .u64 x1, .int .u64 x2, .int .u64 x3, .int .u64 x4]) (.agg #[.int .u64 y0, .int .u64 y1, .int .u64 y2, .int .u64 y3, .int .u64 y4])).run Tryd.prog w = .ok (.bool (decide ([x0, x1, x2, x3, x4] = [y0, y1, y2, y3, y4]))) w := by
  have hp : ∀ (cs : Array Value) (k : Nat) (v : Value), cs[k]? = some v → (part 45 cs k).run Tryd.prog w = .ok v w := by
    intro cs k v h
    have ha : (isAgg 45).run Tryd.prog w = .ok false w := by kernel_rfl
    simp [part, ha, h]
  have hs : (sizeOf 45).run Tryd.prog w = .ok 1 w := by kernel_rfl
  have hu : (underlying 47).run Tryd.prog w = .ok (.array 5 45) w := by kernel_rfl
  rw [run_eql_struct, show (10000:Nat) = 9998+1+1 from rfl]
  have he : ∀ a b : Int, (Op.equalIn (9998 + 1) 45 (.int .u64 a) (.int .u64 b)).run Tryd.prog w = .ok (a == b) w := fun a b => run_equalIn_int _ _ _ _ .u64 _ _ Tryd.underlying45
  rw [Op.equalIn]
  simp [hu, hs, hp, he, Std.Legacy.Range.forIn_eq_forIn_range', Std.Legacy.Range.size, List.range'_succ, List.range'_zero, List.forIn_cons, List.forIn_nil]
  by_cases h0 : x0 = y0 <;> by_cases h1 : x1 = y1 <;> by_cases h2 : x2 = y2 <;> by_cases h3 : x3 = y3 <;> by_cases h4 : x4 = y4 <;> simp [h0, h1, h2, h3, h4]

theorem five_iff (f g : Nat → Nat) : ([(f 0 : Int), (f 1 : Int), (f 2 : Int), (f 3 : Int), (f 4 : Int)] = [(g 0 : Int), (g 1 : Int), (g 2 : Int), (g 3 : Int), (g 4 : Int)]) ↔ ∀ r, r < 5 → f r = g r := by
  constructor
  · intro h r hr
    injection h with h0 h; injection h with h1 h; injection h with h2 h; injection h with h3 h; injection h with h4 h
    rcases (show r = 0 ∨ r = 1 ∨ r = 2 ∨ r = 3 ∨ r = 4 by omega) with rfl | rfl | rfl | rfl | rfl <;> omega
  · intro h
    rw [h 0 (by omega), h 1 (by omega), h 2 (by omega), h 3 (by omega), h 4 (by omega)]

/-- What within answers. -/
def inF (f g : Nat → Nat) : Bool := decide (joinF f g 0 = g 0 ∧ joinF f g 1 = g 1 ∧ joinF f g 2 = g 2 ∧ joinF f g 3 = g 3 ∧ joinF f g 4 = g 4)
theorem five_all (P : Nat → Prop) : (P 0 ∧ P 1 ∧ P 2 ∧ P 3 ∧ P 4) ↔ ∀ r, r < 5 → P r := by
  constructor
  · rintro ⟨h0, h1, h2, h3, h4⟩ r hr
    rcases (show r = 0 ∨ r = 1 ∨ r = 2 ∨ r = 3 ∨ r = 4 by omega) with rfl | rfl | rfl | rfl | rfl <;> assumption
  · intro h
    exact ⟨h 0 (by omega), h 1 (by omega), h 2 (by omega), h 3 (by omega), h 4 (by omega)⟩
theorem inF_iff {f g : Nat → Nat} : inF f g = true ↔ ∀ r, r < 5 → joinF f g r = g r := by
  unfold inF; rw [decide_eq_true_iff]; exact five_all fun r => joinF f g r = g r

theorem ten_up {w wr w' : World} {p q : Nat} {x0 x1 x2 x3 x4 y0 y1 y2 y3 y4 : Value} (B : Below wr.heap.size wr w') (h : ((wr.cell? ⟨p, 0, none⟩ = some x0 ∧ wr.cell? ⟨p, 1, none⟩ = some x1 ∧ wr.cell? ⟨p, 2, none⟩ = some x2 ∧ wr.cell? ⟨p, 3, none⟩ = some x3 ∧ wr.cell? ⟨p, 4, none⟩ = some x4) ∧ wr.cell? ⟨q, 0, none⟩ = some y0 ∧ wr.cell? ⟨q, 1, none⟩ = some y1 ∧ wr.cell? ⟨q, 2, none⟩ = some y2 ∧ wr.cell? ⟨q, 3, none⟩ = some y3 ∧ wr.cell? ⟨q, 4, none⟩ = some y4) ∧ Below w.heap.size w wr) : ((w'.cell? ⟨p, 0, none⟩ = some x0 ∧ w'.cell? ⟨p, 1, none⟩ = some x1 ∧ w'.cell? ⟨p, 2, none⟩ = some x2 ∧ w'.cell? ⟨p, 3, none⟩ = some x3 ∧ w'.cell? ⟨p, 4, none⟩ = some x4) ∧ w'.cell? ⟨q, 0, none⟩ = some y0 ∧ w'.cell? ⟨q, 1, none⟩ = some y1 ∧ w'.cell? ⟨q, 2, none⟩ = some y2 ∧ w'.cell? ⟨q, 3, none⟩ = some y3 ∧ w'.cell? ⟨q, 4, none⟩ = some y4) ∧ Below w.heap.size w w' := by
  obtain ⟨⟨⟨a0, a1, a2, a3, a4⟩, b0, b1, b2, b3, b4⟩, d⟩ := h
  exact ⟨⟨⟨cell_later B a0, cell_later B a1, cell_later B a2, cell_later B a3, cell_later B a4⟩, cell_later B b0, cell_later B b1, cell_later B b2, cell_later B b3, cell_later B b4⟩, bstep d B⟩

set_option maxRecDepth 100000 in
set_option maxHeartbeats 4000000 in
theorem within_any (f g : Nat → Nat) (w : World) (hf : ∀ r, f r < 2251799813685248) (hg : ∀ r, g r < 2251799813685248) :
    Calls Tryd.prog 36 #[setV f, setV g] w fun e w' => e = .returned (.bool (inF f g)) ∧ Below w.heap.size w w' := by
  have sj := fun w => join_any f g w hf hg
  have se := fun w => set_eq (joinF f g 0) (joinF f g 1) (joinF f g 2) (joinF f g 3) (joinF f g 4) (g 0) (g 1) (g 2) (g 3) (g 4) w
  have hd : decide ([(joinF f g 0 : Int), (joinF f g 1 : Int), (joinF f g 2 : Int), (joinF f g 3 : Int), (joinF f g 4 : Int)] = [(g 0 : Int), (g 1 : Int), (g 2 : Int), (g 3 : Int), (g 4 : Int)]) = inF f g := by
    unfold inF; exact decide_eq_decide.2 ((five_iff _ _).trans (five_all fun r => joinF f g r = g r).symm)
  rw [hd] at se
  clear hd hf hg
  generalize joinF f g = j at sj se
  generalize inF f g = q at se ⊢
  unfold setV at sj ⊢
  go_enter Tryd.func36, Tryd.ntmps36
  go_upto_region 1 with fail
  have D0 : Hid (Below w.heap.size w ((w.alloc (.cells #[.int .u64 (f 0), .int .u64 (f 1), .int .u64 (f 2), .int .u64 (f 3), .int .u64 (f 4)] 47)).alloc (.cells #[.int .u64 (g 0), .int .u64 (g 1), .int .u64 (g 2), .int .u64 (g 3), .int .u64 (g 4)] 47)).drew) := Lib.hid (((Below.refl _ _).alloc (Nat.le_refl _) _).alloc (by simp) _).drew
  have A0 : Hid (Set5 ((w.alloc (.cells #[.int .u64 (f 0), .int .u64 (f 1), .int .u64 (f 2), .int .u64 (f 3), .int .u64 (f 4)] 47)).alloc (.cells #[.int .u64 (g 0), .int .u64 (g 1), .int .u64 (g 2), .int .u64 (g 3), .int .u64 (g 4)] 47)) w.heap.size f) := Lib.hid ((Below.heap_alloc _ _ _ (by simp)).trans (heap_alloc_new w _))
  have B0 : Hid (Set5 ((w.alloc (.cells #[.int .u64 (f 0), .int .u64 (f 1), .int .u64 (f 2), .int .u64 (f 3), .int .u64 (f 4)] 47)).alloc (.cells #[.int .u64 (g 0), .int .u64 (g 1), .int .u64 (g 2), .int .u64 (g 3), .int .u64 (g 4)] 47)) (w.heap.size + 1) g) := Lib.hid (heap_alloc_at _ _ _ (by simp))
  have hz : ((w.alloc (.cells #[.int .u64 (f 0), .int .u64 (f 1), .int .u64 (f 2), .int .u64 (f 3), .int .u64 (f 4)] 47)).alloc (.cells #[.int .u64 (g 0), .int .u64 (g 1), .int .u64 (g 2), .int .u64 (g 3), .int .u64 (g 4)] 47)).heap.size = w.heap.size + 2 := by simp
  generalize ((w.alloc (.cells #[.int .u64 (f 0), .int .u64 (f 1), .int .u64 (f 2), .int .u64 (f 3), .int .u64 (f 4)] 47)).alloc (.cells #[.int .u64 (g 0), .int .u64 (g 1), .int .u64 (g 2), .int .u64 (g 3), .int .u64 (g 4)] 47)) = W at D0 A0 B0 hz ⊢
  obtain ⟨a0, a1, a2, a3, a4⟩ := A0.out.five
  obtain ⟨b0, b1, b2, b3, b4⟩ := B0.out.five
  clear A0 B0
  have S0 : Hid (((W.cell? ⟨w.heap.size, 0, none⟩ = some (.int .u64 (f 0)) ∧ W.cell? ⟨w.heap.size, 1, none⟩ = some (.int .u64 (f 1)) ∧ W.cell? ⟨w.heap.size, 2, none⟩ = some (.int .u64 (f 2)) ∧ W.cell? ⟨w.heap.size, 3, none⟩ = some (.int .u64 (f 3)) ∧ W.cell? ⟨w.heap.size, 4, none⟩ = some (.int .u64 (f 4))) ∧ W.cell? ⟨w.heap.size + 1, 0, none⟩ = some (.int .u64 (g 0)) ∧ W.cell? ⟨w.heap.size + 1, 1, none⟩ = some (.int .u64 (g 1)) ∧ W.cell? ⟨w.heap.size + 1, 2, none⟩ = some (.int .u64 (g 2)) ∧ W.cell? ⟨w.heap.size + 1, 3, none⟩ = some (.int .u64 (g 3)) ∧ W.cell? ⟨w.heap.size + 1, 4, none⟩ = some (.int .u64 (g 4))) ∧ Below w.heap.size w W.drew) := Lib.hid ⟨⟨⟨a0, a1, a2, a3, a4⟩, b0, b1, b2, b3, b4⟩, D0.out⟩
  clear a0 a1 a2 a3 a4 b0 b1 b2 b3 b4 D0
  go_region_held3 (fun w' => ((w'.cell? ⟨w.heap.size, 0, none⟩ = some (.int .u64 (f 0)) ∧ w'.cell? ⟨w.heap.size, 1, none⟩ = some (.int .u64 (f 1)) ∧ w'.cell? ⟨w.heap.size, 2, none⟩ = some (.int .u64 (f 2)) ∧ w'.cell? ⟨w.heap.size, 3, none⟩ = some (.int .u64 (f 3)) ∧ w'.cell? ⟨w.heap.size, 4, none⟩ = some (.int .u64 (f 4))) ∧ w'.cell? ⟨w.heap.size + 1, 0, none⟩ = some (.int .u64 (g 0)) ∧ w'.cell? ⟨w.heap.size + 1, 1, none⟩ = some (.int .u64 (g 1)) ∧ w'.cell? ⟨w.heap.size + 1, 2, none⟩ = some (.int .u64 (g 2)) ∧ w'.cell? ⟨w.heap.size + 1, 3, none⟩ = some (.int .u64 (g 3)) ∧ w'.cell? ⟨w.heap.size + 1, 4, none⟩ = some (.int .u64 (g 4))) ∧ Below w.heap.size w w') (first | exact S0.out | exact ten_up (by assumption) (by assumption))
    (first | (go_at_call 32; (with_reducible refine (sj _).mono ?_); rintro e w' ⟨rfl, hb⟩))
  rename_i hHeld
  go_wp2_with fail
  go_ret
  exact ⟨rfl, hHeld.2⟩
end Go.Proofs.YtigaepbhbfpijaaDoor

/- The program's within of two sets; DepsWithin. -/
namespace Go.Proofs.YtigaepbhbfpijaaDoor
open Go.RowKit
set_option linter.unusedVariables false

theorem win_val {A B : List Pid} (ha : srtB A = true) (hb : srtB B = true) : inF (setF A) (setF B) = inP A B := by
  rw [Bool.eq_iff_iff, inF_iff]; exact within_set A B ha hb

set_option maxRecDepth 100000 in
set_option maxHeartbeats 2000000 in
theorem iwin_any (u v : Value) (A B : List Pid) (w : World) (h : Ids w u A) (g : Ids w v B) :
    Calls Tryd.prog 17 #[u, v] w fun e w' => e = .returned (.bool (withinB A B)) ∧ Below w.heap.size w w' := by
  have h := Lib.hid h
  have g := Lib.hid g
  have sw := fun w => within_any (setF A) (setF B) w (setF_lt A) (setF_lt B)
  have hv : Hid (srtB A = true → srtB B = true → inF (setF A) (setF B) = inP A B) := Lib.hid win_val
  unfold withinB
  obtain ⟨f, hf⟩ : ∃ f, Hid (setF A = f) := ⟨_, Lib.hid rfl⟩
  obtain ⟨f', hf'⟩ : ∃ f', Hid (setF B = f') := ⟨_, Lib.hid rfl⟩
  obtain ⟨qi, hqi⟩ : ∃ q, Hid (inF f f' = q) := ⟨_, Lib.hid rfl⟩
  rw [hf.out, hf'.out, hqi.out] at sw hv
  obtain ⟨qa, hqa⟩ : ∃ q, Hid (srtB A = q) := ⟨_, Lib.hid rfl⟩
  obtain ⟨qb, hqb⟩ : ∃ q, Hid (srtB B = q) := ⟨_, Lib.hid rfl⟩
  rw [hqa.out, hqb.out] at hv ⊢
  go_enter Tryd.func17, Tryd.ntmps17
  go_wp2_with fail
  refine (iset_any u A _ h.out).mono ?_
  rintro e w1 ⟨rfl, hb⟩
  rw [hf.out, hqa.out]
  have D1 := Lib.hid (hb.alloc hb.size (.cells #[.int .u64 (f 0), .int .u64 (f 1), .int .u64 (f 2), .int .u64 (f 3), .int .u64 (f 4)] 47))
  have A1 : Hid (Set5 (w1.alloc (.cells #[.int .u64 (f 0), .int .u64 (f 1), .int .u64 (f 2), .int .u64 (f 3), .int .u64 (f 4)] 47)) w1.heap.size f) := Lib.hid (heap_alloc_new w1 _)
  have hb1 := hb.size
  have g1 := Lib.hid (g.out.up D1.out (Nat.le_refl _))
  clear hb h g
  unfold setV at sw ⊢
  go_wp2_with fail
  refine (iset_any v B _ g1.out).mono ?_
  rintro e w2 ⟨rfl, hb⟩
  rw [hf'.out, hqb.out]
  unfold setV
  have hs1 : w1.heap.size < w2.heap.size := Nat.lt_of_lt_of_le (by simp) hb.size
  have A2 := A1.out.up hb (by simp)
  have A3 := Lib.hid (A2.up ((Below.refl _ _).alloc (Nat.le_refl _) (.cells #[.int .u64 (f' 0), .int .u64 (f' 1), .int .u64 (f' 2), .int .u64 (f' 3), .int .u64 (f' 4)] 47)) hs1)
  have D2 := bstep D1.out hb
  have D2 := Lib.hid (D2.alloc D2.size (.cells #[.int .u64 (f' 0), .int .u64 (f' 1), .int .u64 (f' 2), .int .u64 (f' 3), .int .u64 (f' 4)] 47))
  obtain ⟨x0, x1, x2, x3, x4⟩ := A2.five
  clear hb A1 A2 A3 D1 g1
  cases qa
  · go_wp2_with fail
    go_ret
    exact ⟨rfl, D2.out⟩
  · cases qb
    · go_wp2_with fail
      go_ret
      exact ⟨rfl, D2.out⟩
    · have hv2 := Lib.hid (hv.out rfl rfl)
      clear hv
      go_wp2_with fail
      refine (sw _).mono ?_
      rintro e w3 ⟨rfl, hb⟩
      have D3 := Lib.hid (bstep D2.out hb)
      clear hb D2 sw x0 x1 x2 x3 x4
      go_wp2_with fail
      go_ret
      exact ⟨by rw [hv2.out]; rfl, D3.out⟩
end Go.Proofs.YtigaepbhbfpijaaDoor

/- The model's DepsWithin. -/
namespace Go.Proofs.YtigaepbhbfpijaaDoor
open Go.RowKit
set_option linter.unusedVariables false

theorem in_miss {A B : List Pid} {k : Nat} (hk : k < A.length) (h : hasP B (A.getD k nop) = false) : inP A B = false := by
  cases e : inP A B with
  | false => rfl
  | true =>
    have := inP_iff.1 e (A.getD k nop) (by rw [List.getD_eq_getElem?_getD, List.getElem?_eq_getElem hk]; exact List.getElem_mem _)
    unfold hasP at h
    rw [decide_eq_false_iff_not] at h
    exact absurd this h
theorem in_all {A B : List Pid} (h : ∀ j, j < A.length → hasP B (A.getD j nop) = true) : inP A B = true := by
  rw [inP_iff]
  intro x hx
  obtain ⟨i, hi, e⟩ := List.getElem_of_mem hx
  have := h i hi
  rw [List.getD_eq_getElem?_getD, List.getElem?_eq_getElem hi, Option.getD_some, e] at this
  simpa [hasP] using this

set_option maxRecDepth 100000 in
set_option maxHeartbeats 4000000 in
theorem swin_any (u v : Value) (A B : List Pid) (w : World) (h : Ids w u A) (g : Ids w v B) :
    Calls Tryd.prog 19 #[u, v] w fun e w' => e = .returned (.bool (withinB A B)) ∧ Below w.heap.size w w' := by
  have h := Lib.hid h
  have g := Lib.hid g
  unfold withinB
  obtain ⟨qa, hqa⟩ : ∃ q, Hid (srtB A = q) := ⟨_, Lib.hid rfl⟩
  obtain ⟨qb, hqb⟩ : ∃ q, Hid (srtB B = q) := ⟨_, Lib.hid rfl⟩
  obtain ⟨qi, hqi⟩ : ∃ q, Hid (inP A B = q) := ⟨_, Lib.hid rfl⟩
  have s1 := fun w h => sval_any u A w h
  rw [hqa.out] at s1
  rw [hqa.out, hqb.out, hqi.out]
  cases qa
  · go_enter Tryd.func19, Tryd.ntmps19
    go_wp2_with fail
    refine (s1 _ h.out).mono ?_
    rintro e w1 ⟨rfl, hb⟩
    have D1 := Lib.hid hb
    clear hb h g
    go_wp2_with fail
    go_ret
    exact ⟨rfl, D1.out⟩
  · have s2 := fun w h => sval_any v B w h
    rw [hqb.out] at s2
    cases qb
    · go_enter Tryd.func19, Tryd.ntmps19
      go_wp2_with fail
      refine (s1 _ h.out).mono ?_
      rintro e w1 ⟨rfl, hb⟩
      have g1 := Lib.hid (g.out.up hb (Nat.le_refl _))
      have D1 := Lib.hid hb
      clear hb h g
      go_wp2_with fail
      refine (s2 _ g1.out).mono ?_
      rintro e w2 ⟨rfl, hb⟩
      have D2 := Lib.hid (bstep D1.out hb)
      clear hb D1 g1
      go_wp2_with fail
      go_ret
      exact ⟨rfl, D2.out⟩
    · have hl12 : A.length ≤ 12 := (srt_of hqa.out).1
      obtain ⟨a, cap, hu, h1, h2, h3⟩ := h.out
      obtain ⟨n, hn⟩ : ∃ n, Hid (A.length = n) := ⟨_, Lib.hid rfl⟩
      rw [hn.out] at hl12 hu h1
      subst hu
      have h3 := Lib.hid h3
      clear h2
      go_enter Tryd.func19, Tryd.ntmps19
      go_wp2_with fail
      refine (s1 _ h.out).mono ?_
      rintro e w1 ⟨rfl, hb⟩
      have g1 := Lib.hid (g.out.up hb (Nat.le_refl _))
      have h1' := Lib.hid (h.out.up hb (Nat.le_refl _))
      have D1 := Lib.hid hb
      clear hb h g
      go_wp2_with fail
      refine (s2 _ g1.out).mono ?_
      rintro e w2 ⟨rfl, hb⟩
      have g2 := Lib.hid (g1.out.up hb (Nat.le_refl _))
      have D2 := Lib.hid (bstep D1.out hb)
      clear hb D1 g1 h1'
      go_wp2_with fail
      go_loopw [5] (fun i wr => ∃ k : Nat, k ≤ n ∧ i = .int .i64 k ∧ Hid (∀ j, j < k → hasP B (A.getD j nop) = true) ∧ Hid (Below w2.heap.size w2 wr)) (fun i _ => n - (intOf i).toNat)
      case atStart => exact ⟨0, Nat.zero_le _, rfl, Lib.hid fun j hj => absurd hj (Nat.not_lt_zero _), Lib.hid (Below.refl _ _)⟩
      case round =>
        obtain ⟨k, hk, rfl, hin, hnx⟩ := hrel
        by_cases hlt : k < n
        · rcases h3.out with h3' | ⟨b, off, hab, hb1, hb2⟩
          · have := hn.out; omega
          · subst hab
            obtain ⟨h0, h1⟩ := hb2 k (by rw [hn.out]; exact hlt)
            have D3 := bstep D2.out hnx.out
            have q0 := (D3.cell (p := ⟨b, off + k * 2, none⟩) hb1).trans h0
            have q1 := (D3.cell (p := ⟨b, off + k * 2 + 1, none⟩) hb1).trans h1
            have D3 := Lib.hid D3
            clear h0 h1 hb2 h3
            obtain ⟨c, hc⟩ : ∃ c, Hid (A.getD k nop = c) := ⟨_, Lib.hid rfl⟩
            rw [hc.out] at q0 q1
            obtain ⟨p, r⟩ := c
            dsimp only at q0 q1
            have sh := shas_any v B p r _ (g2.out.up hnx.out (Nat.le_refl _))
            obtain ⟨q, hq⟩ : ∃ q, Hid (hasP B (p, r) = q) := ⟨_, Lib.hid rfl⟩
            rw [hq.out] at sh
            have hq' : Hid (hasP B (A.getD k nop) = q) := Lib.hid (by rw [hc.out]; exact hq.out)
            cases q
            · have hR := in_miss (by rw [hn.out]; exact hlt) hq'.out
              rw [hqi.out] at hR
              subst hR
              clear g2
              go_wp2_with fail
              refine sh.mono ?_
              rintro e w3 ⟨rfl, hb⟩
              have D4 := Lib.hid (bstep D3.out hb)
              clear hb q0 q1 sh
              go_wp2_with fail
              go_ret
              exact ⟨rfl, D4.out⟩
            · have hin' := Lib.hid (up_to hin.out hq'.out)
              clear g2
              go_wp2_with fail
              refine sh.mono ?_
              rintro e w3 ⟨rfl, hb⟩
              have D4 := Lib.hid (bstep hnx.out hb)
              clear hb q0 q1 sh
              go_wp2_with fail
              go_roundw
              case rel => exact ⟨k + 1, by omega, by go_num, hin', D4⟩
              case measure => simp [intOf]; omega
        · obtain rfl : k = n := by omega
          have hR := in_all (fun j hj => hin.out j (by rw [← hn.out]; exact hj))
          rw [hqi.out] at hR
          subst hR
          have D3 := Lib.hid (bstep D2.out hnx.out)
          clear g2 h3
          go_wp2_with fail
          go_ret
          exact ⟨rfl, D3.out⟩
end Go.Proofs.YtigaepbhbfpijaaDoor

/- The laws' sameIds, of equal lists. -/
namespace Go.Proofs.YtigaepbhbfpijaaDoor
open Go.RowKit
set_option linter.unusedVariables false

set_option maxRecDepth 100000 in
set_option maxHeartbeats 2000000 in
theorem same_at (a b oa ob ca cb : Nat) (C : List Pid) (w : World) (hm : C.length ≤ 2000000) (ha : a < w.heap.size) (hb : b < w.heap.size)
    (hA : ∀ i, i < C.length → w.cell? ⟨a, oa + i * 2, none⟩ = some (.int .i64 (C.getD i nop).1) ∧ w.cell? ⟨a, oa + i * 2 + 1, none⟩ = some (.int .i64 (C.getD i nop).2))
    (hB : ∀ i, i < C.length → w.cell? ⟨b, ob + i * 2, none⟩ = some (.int .i64 (C.getD i nop).1) ∧ w.cell? ⟨b, ob + i * 2 + 1, none⟩ = some (.int .i64 (C.getD i nop).2)) :
    Calls Tryd.prog 14 #[.slice (some ⟨a, oa, none⟩) C.length ca, .slice (some ⟨b, ob, none⟩) C.length cb] w fun e w' => e = .returned (.bool true) ∧ Below w.heap.size w w' := by
  have hA := Lib.hid hA
  have hB := Lib.hid hB
  obtain ⟨n, hn⟩ : ∃ n, Hid (C.length = n) := ⟨_, Lib.hid rfl⟩
  rw [hn.out] at hm ⊢
  go_enter Tryd.func14, Tryd.ntmps14
  go_wp2_with fail
  go_loopw [5] (fun i wr => ∃ k : Nat, k ≤ n ∧ i = .int .i64 k ∧ Below w.heap.size w wr) (fun i _ => n - (intOf i).toNat)
  case atStart => exact ⟨0, Nat.zero_le _, rfl, Below.refl _ _⟩
  case round =>
    obtain ⟨k, hk, rfl, hnx⟩ := hrel
    by_cases hlt : k < n
    · obtain ⟨h0, h1⟩ := hA.out k (by rw [hn.out]; exact hlt)
      have q0 := (hnx.cell (p := ⟨a, oa + k * 2, none⟩) ha).trans h0
      have q1 := (hnx.cell (p := ⟨a, oa + k * 2 + 1, none⟩) ha).trans h1
      clear h0 h1
      obtain ⟨h0, h1⟩ := hB.out k (by rw [hn.out]; exact hlt)
      have r0 := (hnx.cell (p := ⟨b, ob + k * 2, none⟩) hb).trans h0
      have r1 := (hnx.cell (p := ⟨b, ob + k * 2 + 1, none⟩) hb).trans h1
      clear h0 h1 hA hB
      generalize C.getD k nop = c at q0 q1 r0 r1
      obtain ⟨x, y⟩ := c
      dsimp only at q0 q1 r0 r1
      have hnx := Lib.hid hnx
      go_wp2_with fail
      go_quiet (fail)
      go_wp2_with fail
      go_roundw
      case rel => exact ⟨k + 1, by omega, by go_num, bdrewN hnx.out _⟩
      case measure => simp [intOf]; omega
    · obtain rfl : k = n := by omega
      have hnx := Lib.hid hnx
      clear hA hB
      go_wp2_with fail
      go_ret
      exact ⟨rfl, hnx.out⟩

theorem same_nil (a b : Option Addr) (ca cb : Nat) (w : World) :
    Calls Tryd.prog 14 #[.slice a 0 ca, .slice b 0 cb] w fun e w' => e = .returned (.bool true) ∧ Below w.heap.size w w' := by
  go_enter Tryd.func14, Tryd.ntmps14
  go_wp2_with fail
  refine wp_loop_rounds 1 ?_
  rw [rounds_succ]
  go_wp2_with fail
  go_ret
  exact ⟨rfl, Below.refl _ _⟩

theorem same_any (u x : Value) (C : List Pid) (w : World) (h : Ids w u C) (g : Ids w x C) :
    Calls Tryd.prog 14 #[u, x] w fun e w' => e = .returned (.bool true) ∧ Below w.heap.size w w' := by
  obtain ⟨a, cap, rfl, h1, h2, h3⟩ := h
  obtain ⟨b, cap', rfl, g1, g2, g3⟩ := g
  rcases h3 with h3 | ⟨a, off, rfl, h4, h5⟩
  · obtain rfl : C = [] := List.length_eq_zero_iff.1 h3
    exact same_nil a b cap cap' w
  · rcases g3 with g3 | ⟨b, off', rfl, g4, g5⟩
    · obtain rfl : C = [] := List.length_eq_zero_iff.1 g3
      exact same_nil _ b cap cap' w
    · exact same_at a b off off' cap cap' C w h2 h4 g4 h5 g5
end Go.Proofs.YtigaepbhbfpijaaDoor

/- The program's DepsValid. -/
namespace Go.Proofs.YtigaepbhbfpijaaDoor
open Go.RowKit
set_option linter.unusedVariables false

set_option maxRecDepth 100000 in
set_option maxHeartbeats 1000000 in
theorem ival_any (u : Value) (L : List Pid) (w : World) (h : Ids w u L) :
    Calls Tryd.prog 16 #[u] w fun e w' => e = .returned (.bool (srtB L)) ∧ Below w.heap.size w w' := by
  have h := Lib.hid h
  go_enter Tryd.func16, Tryd.ntmps16
  go_wp2_with fail
  refine (iset_any u L _ h.out).mono ?_
  rintro e w1 ⟨rfl, hb⟩
  have D1 := Lib.hid hb
  clear hb h
  unfold setV
  go_wp2_with fail
  go_ret
  exact ⟨rfl, D1.out.alloc D1.out.size _⟩
end Go.Proofs.YtigaepbhbfpijaaDoor

/- The walks of FnDepsJoinBoth, FnDepsJoinNone, FnWithin. -/
namespace Go.Proofs.YtigaepbhbfpijaaDoor
open Go.RowKit
set_option linter.unusedVariables false

theorem joinR_yes {a b : List Pid} (h : (joinR a b).2 = true) : (joinR a b).1 = joinP a b ∧ srtB a = true ∧ srtB b = true ∧ (joinP a b).length ≤ 12 := by
  unfold joinR at h ⊢
  split at h
  · rename_i hh; rw [if_pos hh]; exact ⟨rfl, hh⟩
  · cases h
theorem join_srt {a b : List Pid} (ha : srtB a = true) (hb : srtB b = true) (h : (joinP a b).length ≤ 12) : srtB (joinP a b) = true := by
  refine srt_to h (List.all_eq_true.2 fun x hx => ?_) (joinP_asc (srt_of ha).2.2)
  rcases joinP_mem.1 hx with h | h
  · exact List.all_eq_true.1 (srt_of ha).2.1 x h
  · exact List.all_eq_true.1 (srt_of hb).2.1 x h
theorem join_comm {a b : List Pid} (ha : srtB a = true) (hb : srtB b = true) : joinP b a = joinP a b :=
  asc_ext (joinP_asc (srt_of hb).2.2) (joinP_asc (srt_of ha).2.2) (fun x => by rw [joinP_mem, joinP_mem]; exact Or.comm)
theorem join_abs {a b : List Pid} (ha : srtB a = true) : joinP (joinP a b) b = joinP a b :=
  asc_ext (joinP_asc (joinP_asc (srt_of ha).2.2)) (joinP_asc (srt_of ha).2.2) (fun x => by
    rw [joinP_mem, joinP_mem]
    constructor
    · rintro (h | h)
      · exact h
      · exact .inr h
    · exact .inl)
theorem join_self {a : List Pid} (ha : srtB a = true) : joinP a a = a :=
  asc_ext (joinP_asc (srt_of ha).2.2) (srt_of ha).2.2 (fun x => by rw [joinP_mem]; exact or_self_iff)
theorem join_in {a b : List Pid} (ha : srtB a = true) (hb : srtB b = true) (h : inP a b = true) : joinP a b = b :=
  asc_ext (joinP_asc (srt_of ha).2.2) (srt_of hb).2.2 (fun x => by
    rw [joinP_mem]
    constructor
    · rintro (h' | h')
      · exact inP_iff.1 h x h'
      · exact h'
    · exact .inr)
theorem joinR_both {a b S : List Pid} (ha : srtB a = true) (hb : srtB b = true) (hS : joinP a b = S) (hl : S.length ≤ 12) : joinR a b = (S, true) := by
  rw [joinR_t ha hb (by rw [hS]; exact hl), hS]
theorem in_len {a b : List Pid} (ha : srtB a = true) (hb : srtB b = true) (h : inP a b = true) : a.length ≤ b.length := by
  have := (foldl_len b a).1
  rw [show b.foldl putP a = b from join_in ha hb h] at this; exact this

set_option maxRecDepth 100000 in
set_option maxHeartbeats 8000000 in
theorem fnDepsJoinBoth_walk (a : Option Addr) (len cap : Nat) (w : World) (hc : CodeIn w a len cap) (hcap : cap ≤ maxLen) (hT : TabIn w) :
    Calls Tryd.prog 4 #[.slice a len cap] w fun e w' => e = .returned (.bool true) ∧ Below w.heap.size w w' := by
  have hm : cap ≤ 9223372036854775807 := by simpa [maxLen] using hcap
  have hlc := hc.1
  by_cases hl : 1048576 < len
  · clear hcap hc hT
    go_enter Tryd.func4, Tryd.ntmps4
    go_wp2_with fail
    go_ret
    exact ⟨rfl, Below.refl _ _⟩
  · have hc1 := Lib.hid hc
    have hcap1 := Lib.hid hcap
    have hT := Lib.hid hT
    clear hc hcap
    go_enter Tryd.func4, Tryd.ntmps4
    go_wp2_with fail
    refine (ddj_any a len cap w hc1.out hcap1.out).mono ?_
    rintro e w0 ⟨u, v, A, B, rfl, hA, hB, hAl, hBl, D1'⟩
    have D := Lib.hid D1'
    have hA := Lib.hid hA
    have hB := Lib.hid hB
    clear hc1 hcap1 D1'
    go_wp2_with fail
    refine (djoin_any u v A B _ hA.out hB.out (hT.out.up D.out (Nat.le_refl _))).mono ?_
    rintro e w1 ⟨g, x, hg, rfl, hO, hb⟩
    have hO := Lib.hid hO
    replace hA := Lib.hid (hA.out.up hb (Nat.le_refl _))
    replace hB := Lib.hid (hB.out.up hb (Nat.le_refl _))
    replace D := Lib.hid (bstep D.out hb)
    clear hb
    go_wp2_with fail
    refine (sdj_any u v A B _ hA.out hB.out).mono ?_
    rintro e w2 ⟨g2, y, hg2, rfl, hP, hb⟩
    have hP := Lib.hid hP
    replace hA := Lib.hid (hA.out.up hb (Nat.le_refl _))
    replace hB := Lib.hid (hB.out.up hb (Nat.le_refl _))
    replace hO := Lib.hid (hO.out.up hb hO.out.lt)
    replace D := Lib.hid (bstep D.out hb)
    clear hb
    have hyes : Hid ((joinR A B).2 = true → (joinR A B).1 = joinP A B ∧ srtB A = true ∧ srtB B = true ∧ (joinP A B).length ≤ 12) := Lib.hid joinR_yes
    generalize joinR A B = R at hO hP hyes ⊢
    obtain ⟨S, f⟩ := R
    dsimp only at hO hP hyes ⊢
    go_wp2_with fail
    refine (same_any x y S _ hO.out.read hP.out.read).mono ?_
    rintro e w3 ⟨rfl, hb⟩
    replace hA := Lib.hid (hA.out.up hb (Nat.le_refl _))
    replace hB := Lib.hid (hB.out.up hb (Nat.le_refl _))
    replace hO := Lib.hid (hO.out.up hb hO.out.lt)
    replace hP := Lib.hid (hP.out.up hb hP.out.lt)
    replace D := Lib.hid (bstep D.out hb)
    clear hb
    cases f
    · go_wp2_with fail
      refine (same_any x y S _ hO.out.read hP.out.read).mono ?_
      rintro e w4 ⟨rfl, hb⟩
      replace D := Lib.hid (bstep D.out hb)
      clear hb
      clear hA hB hO hP
      go_wp2_with fail
      go_ret
      exact ⟨rfl, D.out⟩
    · obtain ⟨hSJ, hqa, hqb, hle⟩ := hyes.out rfl
      have hSJ := Lib.hid hSJ
      have hqa := Lib.hid hqa
      have hqb := Lib.hid hqb
      have hSs : Hid (srtB S = true) := Lib.hid (by rw [hSJ.out]; exact join_srt hqa.out hqb.out hle)
      have hle : Hid (S.length ≤ 12) := Lib.hid (by rw [hSJ.out]; exact hle)
      clear hyes hP
      have hr1 : Hid (joinR B A = (S, true)) := Lib.hid (joinR_both hqb.out hqa.out ((join_comm hqa.out hqb.out).trans hSJ.out.symm) hle.out)
      have hr2 : Hid (joinR S B = (S, true)) := Lib.hid (joinR_both hSs.out hqb.out (by rw [hSJ.out]; exact join_abs hqa.out) hle.out)
      go_wp2_with fail
      refine (djoin_any v u B A _ hB.out hA.out (hT.out.up D.out (Nat.le_refl _))).mono ?_
      rintro e w5 ⟨g3, x3, hg3, rfl, hX, hb⟩
      rw [hr1.out] at hX ⊢
      have hX := Lib.hid hX
      replace hA := Lib.hid (hA.out.up hb (Nat.le_refl _))
      replace hB := Lib.hid (hB.out.up hb (Nat.le_refl _))
      replace hO := Lib.hid (hO.out.up hb hO.out.lt)
      replace D := Lib.hid (bstep D.out hb)
      clear hb
      go_wp2_with fail
      refine (djoin_any x v S B _ hO.out.read hB.out (hT.out.up D.out (Nat.le_refl _))).mono ?_
      rintro e w6 ⟨g4, x4, hg4, rfl, hY, hb⟩
      rw [hr2.out] at hY ⊢
      have hY := Lib.hid hY
      replace hO := Lib.hid (hO.out.up hb hO.out.lt)
      replace hX := Lib.hid (hX.out.up hb hX.out.lt)
      replace D := Lib.hid (bstep D.out hb)
      clear hb
      go_wp2_with fail
      refine (same_any x3 x S _ hX.out.read hO.out.read).mono ?_
      rintro e w7 ⟨rfl, hb⟩
      replace hO := Lib.hid (hO.out.up hb hO.out.lt)
      replace hY := Lib.hid (hY.out.up hb hY.out.lt)
      replace D := Lib.hid (bstep D.out hb)
      clear hb
      go_wp2_with fail
      refine (same_any x4 x S _ hY.out.read hO.out.read).mono ?_
      rintro e w8 ⟨rfl, hb⟩
      replace D := Lib.hid (bstep D.out hb)
      clear hb
      clear hA hB hO hX hY
      go_wp2_with fail
      go_ret
      exact ⟨rfl, D.out⟩

set_option maxRecDepth 100000 in
set_option maxHeartbeats 8000000 in
theorem fnDepsJoinNone_walk (a : Option Addr) (len cap : Nat) (w : World) (hc : CodeIn w a len cap) (hcap : cap ≤ maxLen) (hT : TabIn w) :
    Calls Tryd.prog 5 #[.slice a len cap] w fun e w' => e = .returned (.bool true) ∧ Below w.heap.size w w' := by
  have hm : cap ≤ 9223372036854775807 := by simpa [maxLen] using hcap
  have hlc := hc.1
  by_cases hl : 1048576 < len
  · clear hcap hc hT
    go_enter Tryd.func5, Tryd.ntmps5
    go_wp2_with fail
    go_ret
    exact ⟨rfl, Below.refl _ _⟩
  · have hc1 := Lib.hid hc
    have hcap1 := Lib.hid hcap
    have hT := Lib.hid hT
    clear hc hcap
    go_enter Tryd.func5, Tryd.ntmps5
    go_wp2_with fail
    refine (ddj_any a len cap w hc1.out hcap1.out).mono ?_
    rintro e w0 ⟨u, v, A, B, rfl, hA, hB, hAl, hBl, D1'⟩
    have D := Lib.hid D1'
    have hA := Lib.hid hA
    have hB := Lib.hid hB
    clear hc1 hcap1 D1'
    go_wp2_with fail
    refine (djoin_any u v A B _ hA.out hB.out (hT.out.up D.out (Nat.le_refl _))).mono ?_
    rintro e w1 ⟨g, x, hg, rfl, hO, hb⟩
    have hO := Lib.hid hO
    replace hA := Lib.hid (hA.out.up hb (Nat.le_refl _))
    replace hB := Lib.hid (hB.out.up hb (Nat.le_refl _))
    replace D := Lib.hid (bstep D.out hb)
    clear hb
    go_wp2_with fail
    refine (sdj_any u v A B _ hA.out hB.out).mono ?_
    rintro e w2 ⟨g2, y, hg2, rfl, hP, hb⟩
    have hP := Lib.hid hP
    replace hA := Lib.hid (hA.out.up hb (Nat.le_refl _))
    replace hB := Lib.hid (hB.out.up hb (Nat.le_refl _))
    replace hO := Lib.hid (hO.out.up hb hO.out.lt)
    replace D := Lib.hid (bstep D.out hb)
    clear hb
    have hyes : Hid ((joinR A B).2 = true → (joinR A B).1 = joinP A B ∧ srtB A = true ∧ srtB B = true ∧ (joinP A B).length ≤ 12) := Lib.hid joinR_yes
    generalize joinR A B = R at hO hP hyes ⊢
    obtain ⟨S, f⟩ := R
    dsimp only at hO hP hyes ⊢
    go_wp2_with fail
    refine (same_any x y S _ hO.out.read hP.out.read).mono ?_
    rintro e w3 ⟨rfl, hb⟩
    replace hA := Lib.hid (hA.out.up hb (Nat.le_refl _))
    replace hB := Lib.hid (hB.out.up hb (Nat.le_refl _))
    replace hO := Lib.hid (hO.out.up hb hO.out.lt)
    replace hP := Lib.hid (hP.out.up hb hP.out.lt)
    replace D := Lib.hid (bstep D.out hb)
    clear hb
    cases f
    · go_wp2_with fail
      refine (same_any x y S _ hO.out.read hP.out.read).mono ?_
      rintro e w4 ⟨rfl, hb⟩
      replace D := Lib.hid (bstep D.out hb)
      clear hb
      clear hA hB hO hP
      go_wp2_with fail
      go_ret
      exact ⟨rfl, D.out⟩
    · obtain ⟨hSJ, hqa, hqb, hle⟩ := hyes.out rfl
      have hSJ := Lib.hid hSJ
      have hqa := Lib.hid hqa
      have hqb := Lib.hid hqb
      have hSs : Hid (srtB S = true) := Lib.hid (by rw [hSJ.out]; exact join_srt hqa.out hqb.out hle)
      have hle : Hid (S.length ≤ 12) := Lib.hid (by rw [hSJ.out]; exact hle)
      clear hyes hP
      have hla : Hid (A.length ≤ 12) := Lib.hid (srt_of hqa.out).1
      have hr1 : Hid (joinR A [] = (A, true)) := Lib.hid (joinR_both hqa.out (by decide) rfl hla.out)
      have hr2 : Hid (joinR A A = (A, true)) := Lib.hid (joinR_both hqa.out hqa.out (join_self hqa.out) hla.out)
      clear hB hO
      go_wp2_with fail
      refine (djoin_any u _ A [] _ (hA.out.up ((Below.refl _ _).alloc (Nat.le_refl _) _) (Nat.le_refl _)) (ownP_nil _ _).read (hT.out.up (D.out.alloc D.out.size _) (Nat.le_refl _))).mono ?_
      rintro e w5 ⟨g3, x3, hg3, rfl, hX, hb⟩
      rw [hr1.out] at hX ⊢
      have hX := Lib.hid hX
      replace hA := Lib.hid ((hA.out.up ((Below.refl _ _).alloc (Nat.le_refl _) (.cells #[] 31)) (Nat.le_refl _)).up hb (Nat.le_refl _))
      replace D := Lib.hid (D.out.alloc D.out.size (.cells #[] 31))
      replace D := Lib.hid (bstep D.out hb)
      clear hb
      go_wp2_with fail
      refine (djoin_any u u A A _ hA.out hA.out (hT.out.up D.out (Nat.le_refl _))).mono ?_
      rintro e w6 ⟨g4, x4, hg4, rfl, hY, hb⟩
      rw [hr2.out] at hY ⊢
      have hY := Lib.hid hY
      replace hA := Lib.hid (hA.out.up hb (Nat.le_refl _))
      replace hX := Lib.hid (hX.out.up hb hX.out.lt)
      replace D := Lib.hid (bstep D.out hb)
      clear hb
      go_wp2_with fail
      refine (same_any x3 u A _ hX.out.read hA.out).mono ?_
      rintro e w7 ⟨rfl, hb⟩
      replace hA := Lib.hid (hA.out.up hb (Nat.le_refl _))
      replace hY := Lib.hid (hY.out.up hb hY.out.lt)
      replace D := Lib.hid (bstep D.out hb)
      clear hb
      go_wp2_with fail
      refine (same_any x4 u A _ hY.out.read hA.out).mono ?_
      rintro e w8 ⟨rfl, hb⟩
      replace D := Lib.hid (bstep D.out hb)
      clear hb
      clear hA hX hY
      go_wp2_with fail
      go_ret
      exact ⟨rfl, D.out⟩

set_option maxRecDepth 100000 in
set_option maxHeartbeats 8000000 in
theorem fnWithin_walk (a : Option Addr) (len cap : Nat) (w : World) (hc : CodeIn w a len cap) (hcap : cap ≤ maxLen) (hT : TabIn w) :
    Calls Tryd.prog 6 #[.slice a len cap] w fun e w' => e = .returned (.bool true) ∧ Below w.heap.size w w' := by
  have hm : cap ≤ 9223372036854775807 := by simpa [maxLen] using hcap
  have hlc := hc.1
  by_cases hl : 1048576 < len
  · clear hcap hc hT
    go_enter Tryd.func6, Tryd.ntmps6
    go_wp2_with fail
    go_ret
    exact ⟨rfl, Below.refl _ _⟩
  · have hc1 := Lib.hid hc
    have hcap1 := Lib.hid hcap
    have hT := Lib.hid hT
    clear hc hcap
    go_enter Tryd.func6, Tryd.ntmps6
    go_wp2_with fail
    refine (dwin_any a len cap w hc1.out hcap1.out).mono ?_
    rintro e w0 ⟨u, v, A, B, rfl, hA, hB, hAl, hBl, D1'⟩
    have D := Lib.hid D1'
    have hA := Lib.hid hA
    have hB := Lib.hid hB
    clear hc1 hcap1 D1'
    go_wp2_with fail
    refine (iwin_any u v A B _ hA.out hB.out).mono ?_
    rintro e w1 ⟨rfl, hb⟩
    replace hA := Lib.hid (hA.out.up hb (Nat.le_refl _))
    replace hB := Lib.hid (hB.out.up hb (Nat.le_refl _))
    replace D := Lib.hid (bstep D.out hb)
    clear hb
    go_wp2_with fail
    refine (swin_any u v A B _ hA.out hB.out).mono ?_
    rintro e w2 ⟨rfl, hb⟩
    replace hA := Lib.hid (hA.out.up hb (Nat.le_refl _))
    replace hB := Lib.hid (hB.out.up hb (Nat.le_refl _))
    replace D := Lib.hid (bstep D.out hb)
    clear hb
    have hyes : Hid (withinB A B = true → srtB A = true ∧ srtB B = true ∧ inP A B = true) := Lib.hid fun h => by simpa [withinB] using h
    generalize withinB A B = q at hyes ⊢
    cases q
    · clear hA hB
      go_wp2_with fail
      go_ret
      exact ⟨rfl, D.out⟩
    · obtain ⟨hqa, hqb, hqi⟩ := hyes.out rfl
      have hlb := (srt_of hqb).1
      have hll := in_len hqa hqb hqi
      have hr1 : Hid (joinR A B = (B, true)) := Lib.hid (joinR_both hqa hqb (join_in hqa hqb hqi) hlb)
      have hlb := Lib.hid hlb
      have hll := Lib.hid hll
      clear hyes hqa hqb hqi
      go_wp2_with fail
      refine (djoin_any u v A B _ hA.out hB.out (hT.out.up D.out (Nat.le_refl _))).mono ?_
      rintro e w3 ⟨g3, x3, hg3, rfl, hX, hb⟩
      rw [hr1.out] at hX ⊢
      have hX := Lib.hid hX
      replace hA := Lib.hid (hA.out.up hb (Nat.le_refl _))
      replace hB := Lib.hid (hB.out.up hb (Nat.le_refl _))
      replace D := Lib.hid (bstep D.out hb)
      clear hb
      go_wp2_with fail
      refine (same_any x3 v B _ hX.out.read hB.out).mono ?_
      rintro e w4 ⟨rfl, hb⟩
      replace hA := Lib.hid (hA.out.up hb (Nat.le_refl _))
      replace hB := Lib.hid (hB.out.up hb (Nat.le_refl _))
      replace D := Lib.hid (bstep D.out hb)
      clear hb
      obtain ⟨a1, c1, hu, hc1, _, _⟩ := hA.out
      obtain ⟨a2, c2, hv, hc2, _, _⟩ := hB.out
      have hlb := hlb.out
      have hll := hll.out
      clear hA hB hX hr1
      obtain ⟨na, hna⟩ : ∃ n, A.length = n := ⟨_, rfl⟩
      obtain ⟨nb, hnb⟩ : ∃ n, B.length = n := ⟨_, rfl⟩
      rw [hna] at hll hu hc1
      rw [hnb] at hll hv hc2 hlb
      subst hu hv
      have hle2 : (na : Int) ≤ (nb : Int) := by omega
      clear hna hnb
      go_wp2_with fail
      go_ret
      exact ⟨by simp, D.out⟩
end Go.Proofs.YtigaepbhbfpijaaDoor

/- The laws' hasId. -/
namespace Go.Proofs.YtigaepbhbfpijaaDoor
open Go.RowKit
set_option linter.unusedVariables false

set_option maxRecDepth 100000 in
set_option maxHeartbeats 2000000 in
theorem lhas_at (b off ca : Nat) (L : List Pid) (x y : Int) (w : World) (hb : b < w.heap.size) (hm : L.length ≤ 2000000) (h : ∀ i, i < L.length → w.cell? ⟨b, off + i * 2, none⟩ = some (.int .i64 (L.getD i nop).1) ∧ w.cell? ⟨b, off + i * 2 + 1, none⟩ = some (.int .i64 (L.getD i nop).2)) :
    Calls Tryd.prog 15 #[.slice (some ⟨b, off, none⟩) L.length ca, .agg #[.int .i64 x, .int .i64 y]] w fun e w' => e = .returned (.bool (hasP L (x, y))) ∧ Below w.heap.size w w' := by
  have h := Lib.hid h
  obtain ⟨n, hn⟩ : ∃ n, Hid (L.length = n) := ⟨_, Lib.hid rfl⟩
  obtain ⟨q, hq⟩ : ∃ q, Hid (hasP L (x, y) = q) := ⟨_, Lib.hid rfl⟩
  rw [hn.out] at hm ⊢
  rw [hq.out]
  go_enter Tryd.func15, Tryd.ntmps15
  go_wp2_with fail
  go_loopw [5] (fun i wr => ∃ k : Nat, k ≤ n ∧ i = .int .i64 k ∧ Hid (∀ j, j < k → ¬ L.getD j nop = (x, y)) ∧ wr.cell? ⟨w.heap.size, 0, none⟩ = some (.int .i64 x) ∧ wr.cell? ⟨w.heap.size, 1, none⟩ = some (.int .i64 y) ∧ Below w.heap.size w wr) (fun i _ => n - (intOf i).toNat)
  case atStart => exact ⟨0, Nat.zero_le _, rfl, Lib.hid (fun j hj => absurd hj (Nat.not_lt_zero _)), by go_simp, by go_simp, (Below.refl _ _).alloc (Nat.le_refl _) _⟩
  case round =>
    obtain ⟨k, hk, rfl, hno, x0, x1, hnx⟩ := hrel
    by_cases hlt : k < n
    · obtain ⟨h0, h1⟩ := h.out k (by rw [hn.out]; exact hlt)
      have q0 := (hnx.cell (p := ⟨b, off + k * 2, none⟩) hb).trans h0
      have q1 := (hnx.cell (p := ⟨b, off + k * 2 + 1, none⟩) hb).trans h1
      clear h0 h1
      obtain ⟨c, hc⟩ : ∃ c, Hid (L.getD k nop = c) := ⟨_, Lib.hid rfl⟩
      rw [hc.out] at q0 q1
      obtain ⟨p, r⟩ := c
      dsimp only at q0 q1
      have hnx := Lib.hid hnx
      clear h
      by_cases e1 : p = x
      · subst e1
        by_cases e2 : r = y
        · subst e2
          have hqt := hq.out
          rw [has_t (by rw [hn.out]; exact hlt) hc.out] at hqt
          subst hqt
          go_wp2_with fail
          go_quiet (fail)
          go_wp2_with fail
          go_ret
          exact ⟨rfl, bdrewN hnx.out _⟩
        · have R := Lib.hid (up_to hno.out (show ¬ L.getD k nop = (p, y) by rw [hc.out]; intro e; exact e2 (congrArg Prod.snd e)))
          go_wp2_with fail
          go_quiet (fail)
          go_wp2_with fail
          go_roundw
          case rel => exact ⟨k + 1, by omega, by go_num, R, by go_simp, by go_simp, bdrewN hnx.out _⟩
          case measure => simp [intOf]; omega
      · have R := Lib.hid (up_to hno.out (show ¬ L.getD k nop = (x, y) by rw [hc.out]; intro e; exact e1 (congrArg Prod.fst e)))
        go_wp2_with fail
        go_quiet (fail)
        go_wp2_with fail
        go_roundw
        case rel => exact ⟨k + 1, by omega, by go_num, R, by go_simp, by go_simp, bdrewN hnx.out _⟩
        case measure => simp [intOf]; omega
    · obtain rfl : k = n := by omega
      have hqf := hq.out
      rw [has_f (fun j hj => hno.out j (by rw [← hn.out]; exact hj))] at hqf
      subst hqf
      have hnx := Lib.hid hnx
      clear h
      go_wp2_with fail
      go_ret
      exact ⟨rfl, hnx.out⟩

theorem lhas_nil (a : Option Addr) (ca : Nat) (x y : Int) (w : World) :
    Calls Tryd.prog 15 #[.slice a 0 ca, .agg #[.int .i64 x, .int .i64 y]] w fun e w' => e = .returned (.bool (hasP [] (x, y))) ∧ Below w.heap.size w w' := by
  rw [show hasP [] (x, y) = false from rfl]
  go_enter Tryd.func15, Tryd.ntmps15
  go_wp2_with fail
  refine wp_loop_rounds 1 ?_
  rw [rounds_succ]
  go_wp2_with fail
  go_ret
  exact ⟨rfl, (Below.refl _ _).alloc (Nat.le_refl _) _⟩

theorem lhas_any (u : Value) (L : List Pid) (x y : Int) (w : World) (h : Ids w u L) :
    Calls Tryd.prog 15 #[u, .agg #[.int .i64 x, .int .i64 y]] w fun e w' => e = .returned (.bool (hasP L (x, y))) ∧ Below w.heap.size w w' := by
  obtain ⟨a, cap, rfl, h1, h2, h3⟩ := h
  rcases h3 with h3 | ⟨b, off, rfl, h4, h5⟩
  · obtain rfl : L = [] := List.length_eq_zero_iff.1 h3
    exact lhas_nil a cap x y w
  · exact lhas_at b off cap L x y w h4 h2 h5
end Go.Proofs.YtigaepbhbfpijaaDoor

/- The walk of FnDepsJoin. -/
namespace Go.Proofs.YtigaepbhbfpijaaDoor
open Go.RowKit
set_option linter.unusedVariables false

theorem join_has {A B S : List Pid} (h : S = joinP A B) {i : Nat} (hi : i < S.length) : hasP A (S.getD i nop) = false → hasP B (S.getD i nop) = true := by
  intro hn
  have hm : S.getD i nop ∈ S := by rw [List.getD_eq_getElem?_getD, List.getElem?_eq_getElem hi]; exact List.getElem_mem _
  rw [h] at hm
  unfold hasP at hn ⊢
  rw [decide_eq_false_iff_not] at hn
  rw [decide_eq_true_iff]
  rw [h] at hn ⊢
  rcases joinP_mem.1 hm with h' | h'
  · exact absurd h' hn
  · exact h'
theorem join_within {A B S : List Pid} (h : S = joinP A B) (ha : srtB A = true) (hb : srtB B = true) (hs : srtB S = true) : withinB A S = true ∧ withinB B S = true := by
  unfold withinB
  rw [ha, hb, hs, Bool.true_and, Bool.true_and, Bool.true_and, Bool.true_and, inP_iff, inP_iff]
  subst h
  exact ⟨fun x hx => joinP_mem.2 (.inl hx), fun x hx => joinP_mem.2 (.inr hx)⟩

set_option maxRecDepth 100000 in
set_option maxHeartbeats 8000000 in
theorem fnDepsJoin_walk (a : Option Addr) (len cap : Nat) (w : World) (hc : CodeIn w a len cap) (hcap : cap ≤ maxLen) (hT : TabIn w) :
    Calls Tryd.prog 3 #[.slice a len cap] w fun e w' => e = .returned (.bool true) ∧ Below w.heap.size w w' := by
  have hm : cap ≤ 9223372036854775807 := by simpa [maxLen] using hcap
  have hlc := hc.1
  by_cases hl : 1048576 < len
  · clear hcap hc hT
    go_enter Tryd.func3, Tryd.ntmps3
    go_wp2_with fail
    go_ret
    exact ⟨rfl, Below.refl _ _⟩
  · have hc1 := Lib.hid hc
    have hcap1 := Lib.hid hcap
    have hT := Lib.hid hT
    clear hc hcap
    go_enter Tryd.func3, Tryd.ntmps3
    go_wp2_with fail
    refine (ddj_any a len cap w hc1.out hcap1.out).mono ?_
    rintro e w0 ⟨u, v, A, B, rfl, hA, hB, hAl, hBl, D1'⟩
    have D := Lib.hid D1'
    have hA := Lib.hid hA
    have hB := Lib.hid hB
    clear hc1 hcap1 D1'
    go_wp2_with fail
    refine (djoin_any u v A B _ hA.out hB.out (hT.out.up D.out (Nat.le_refl _))).mono ?_
    rintro e w1 ⟨g, x, hg, rfl, hO, hb⟩
    have hO := Lib.hid hO
    replace hA := Lib.hid (hA.out.up hb (Nat.le_refl _))
    replace hB := Lib.hid (hB.out.up hb (Nat.le_refl _))
    replace D := Lib.hid (bstep D.out hb)
    clear hb
    go_wp2_with fail
    refine (sdj_any u v A B _ hA.out hB.out).mono ?_
    rintro e w2 ⟨g2, y, hg2, rfl, hP, hb⟩
    have hP := Lib.hid hP
    replace hA := Lib.hid (hA.out.up hb (Nat.le_refl _))
    replace hB := Lib.hid (hB.out.up hb (Nat.le_refl _))
    replace hO := Lib.hid (hO.out.up hb hO.out.lt)
    replace D := Lib.hid (bstep D.out hb)
    clear hb
    have hyes : Hid ((joinR A B).2 = true → (joinR A B).1 = joinP A B ∧ srtB A = true ∧ srtB B = true ∧ (joinP A B).length ≤ 12) := Lib.hid joinR_yes
    generalize joinR A B = R at hO hP hyes ⊢
    obtain ⟨S, f⟩ := R
    dsimp only at hO hP hyes ⊢
    go_wp2_with fail
    refine (same_any x y S _ hO.out.read hP.out.read).mono ?_
    rintro e w3 ⟨rfl, hb⟩
    replace hA := Lib.hid (hA.out.up hb (Nat.le_refl _))
    replace hB := Lib.hid (hB.out.up hb (Nat.le_refl _))
    replace hO := Lib.hid (hO.out.up hb hO.out.lt)
    replace hP := Lib.hid (hP.out.up hb hP.out.lt)
    replace D := Lib.hid (bstep D.out hb)
    clear hb
    cases f
    · go_wp2_with fail
      refine (same_any x y S _ hO.out.read hP.out.read).mono ?_
      rintro e w4 ⟨rfl, hb⟩
      replace D := Lib.hid (bstep D.out hb)
      clear hb
      clear hA hB hO hP
      go_wp2_with fail
      go_ret
      exact ⟨rfl, D.out⟩
    · obtain ⟨hSJ, hqa, hqb, hle⟩ := hyes.out rfl
      have hSJ := Lib.hid hSJ
      have hqa := Lib.hid hqa
      have hqb := Lib.hid hqb
      have hSs : Hid (srtB S = true) := Lib.hid (by rw [hSJ.out]; exact join_srt hqa.out hqb.out hle)
      have hle : Hid (S.length ≤ 12) := Lib.hid (by rw [hSJ.out]; exact hle)
      clear hyes hP
      have hw1 := fun w h g => iwin_any u x A S w h g
      have hw2 := fun w h g => iwin_any v x B S w h g
      have hv1 := fun w h => ival_any x S w h
      rw [hSs.out] at hv1
      rw [(join_within hSJ.out hqa.out hqb.out hSs.out).1] at hw1
      rw [(join_within hSJ.out hqa.out hqb.out hSs.out).2] at hw2
      obtain ⟨n, hn⟩ : ∃ n, Hid (S.length = n) := ⟨_, Lib.hid rfl⟩
      have hjh : Hid (∀ i, i < n → hasP A (S.getD i nop) = false → hasP B (S.getD i nop) = true) := Lib.hid fun i hi => join_has hSJ.out (by rw [hn.out]; exact hi)
      obtain ⟨cS, hx, hcS⟩ := hO.out.shape
      have hle := hle.out
      rw [hn.out] at hx hcS hle
      subst hx
      clear hSs hqa hqb hSJ
      go_wp2_with fail
      go_loopw [9] (fun i wr => ∃ k : Nat, k ≤ n ∧ i = .int .i64 k ∧ Hid (Below w3.heap.size w3 wr)) (fun i _ => n - (intOf i).toNat)
      case atStart => exact ⟨0, Nat.zero_le _, rfl, Lib.hid (Below.refl _ _)⟩
      case round =>
        obtain ⟨k, hk, rfl, hnx⟩ := hrel
        by_cases hlt : k < n
        · obtain ⟨q0, q1⟩ := (hO.out.up hnx.out hO.out.lt).cell k (by rw [hn.out]; exact hlt)
          have hjk := hjh.out k hlt
          have hA2 := Lib.hid (hA.out.up hnx.out (Nat.le_refl _))
          have hB2 := Lib.hid (hB.out.up hnx.out (Nat.le_refl _))
          generalize S.getD k nop = c at q0 q1 hjk
          obtain ⟨p, r⟩ := c
          dsimp only at q0 q1
          have s1 := fun w h => lhas_any u A p r w h
          have s2 := fun w h => lhas_any v B p r w h
          generalize hasP A (p, r) = qa at s1 hjk
          clear hO hA hB hw1 hw2 hv1
          cases qa
          · rw [hjk rfl] at s2
            go_wp2_with fail
            refine (s1 _ hA2.out).mono ?_
            rintro e w6 ⟨rfl, hb⟩
            replace hB2 := Lib.hid (hB2.out.up hb (Nat.le_refl _))
            have D6 := Lib.hid (bstep hnx.out hb)
            replace q0 := cell_later hb q0
            replace q1 := cell_later hb q1
            clear hb hA2
            go_wp2_with fail
            refine (s2 _ hB2.out).mono ?_
            rintro e w7 ⟨rfl, hb⟩
            have D7 := Lib.hid (bstep D6.out hb)
            clear hb hB2 q0 q1 D6
            go_wp2_with fail
            go_roundw
            case rel => exact ⟨k + 1, by omega, by go_num, D7⟩
            case measure => simp [intOf]; omega
          · go_wp2_with fail
            refine (s1 _ hA2.out).mono ?_
            rintro e w6 ⟨rfl, hb⟩
            have D6 := Lib.hid (bstep hnx.out hb)
            clear hb hA2 hB2 q0 q1
            go_wp2_with fail
            go_roundw
            case rel => exact ⟨k + 1, by omega, by go_num, D6⟩
            case measure => simp [intOf]; omega
        · replace hA := Lib.hid (hA.out.up hnx.out (Nat.le_refl _))
          replace hB := Lib.hid (hB.out.up hnx.out (Nat.le_refl _))
          replace hO := Lib.hid (hO.out.up hnx.out hO.out.lt)
          replace D := Lib.hid (bstep D.out hnx.out)
          clear hnx hjh
          go_wp2_with fail
          refine (hv1 _ hO.out.read).mono ?_
          rintro e w8 ⟨rfl, hb⟩
          replace hA := Lib.hid (hA.out.up hb (Nat.le_refl _))
          replace hB := Lib.hid (hB.out.up hb (Nat.le_refl _))
          replace hO := Lib.hid (hO.out.up hb hO.out.lt)
          replace D := Lib.hid (bstep D.out hb)
          clear hb
          go_wp2_with fail
          refine (hw1 _ hA.out hO.out.read).mono ?_
          rintro e w9 ⟨rfl, hb⟩
          replace hB := Lib.hid (hB.out.up hb (Nat.le_refl _))
          replace hO := Lib.hid (hO.out.up hb hO.out.lt)
          replace D := Lib.hid (bstep D.out hb)
          clear hb
          go_wp2_with fail
          refine (hw2 _ hB.out hO.out.read).mono ?_
          rintro e w10 ⟨rfl, hb⟩
          replace D := Lib.hid (bstep D.out hb)
          clear hb
          go_wp2_with fail
          go_ret
          exact ⟨rfl, D.out⟩
end Go.Proofs.YtigaepbhbfpijaaDoor

/- What the frames of all proofs use: the program's own knob, the layout, a code that came in. -/
namespace Go.Proofs.YtigaepbhbfpijaaDoor
open Go.ChangeShapes Go.WideShapes Go.ChangeAt Go.RowKit Go.Joins
set_option linter.unusedVariables false

theorem own : ownKnob Tryd.prog.godebug = none := by kernel_rfl
theorem laidOut : laidOutB Tryd.prog = true := by kernel_rfl
theorem cells_lawsId : Tryd.prog.cellsOf 60 = 2 := by kernel_rfl

theorem code_of_row {w : World} {x : Addr} {len cap : Nat} {zs : List Int} (hl : len ≤ cap) (hz : zs.length = cap) (hcell : ∀ i, i < zs.length → w.cell? (x.add i) = some (.int .u8 (zs.getD i 0))) (hwz : ∀ n ∈ zs, (Lit.int .u8 n).wf = true) :
    CodeIn w (some x) len cap := by
  refine ⟨hl, ?_⟩
  by_cases h0 : len = 0
  · exact .inl h0
  · obtain ⟨b, off, spot⟩ := x
    have hc := hcell 0 (by omega)
    have hspot : spot = none := by simpa [Addr.add] using World.cell?_spot hc
    subst hspot
    refine .inr ⟨b, off, rfl, ?_, fun i hi => ?_⟩
    · have := World.block_lt_of_cell? w _ hc
      simpa [Addr.add] using this
    · have h1 := hcell i (by omega)
      have h2 : (Lit.int .u8 (zs.getD i 0)).wf = true := by
        rw [List.getD_eq_getElem?_getD, List.getElem?_eq_getElem (by omega)]
        exact hwz _ (List.getElem_mem _)
      have h3 : 0 ≤ zs.getD i 0 ∧ zs.getD i 0 ≤ 255 := by simpa [Lit.wf, IntKind.min, IntKind.max, IntKind.signed, IntKind.bits] using h2
      exact ⟨zs.getD i 0, h3.1, h3.2, by
        have e : (⟨b, off, none⟩ : Addr).add i = ⟨b, off + i, none⟩ := by unfold Addr.add; split <;> simp_all
        rw [e] at h1; exact h1⟩
end Go.Proofs.YtigaepbhbfpijaaDoor

/- What the frames of laws over slices of ids use. -/
namespace Go.Proofs.YtigaepbhbfpijaaDoor
open Go.ChangeShapes Go.WideShapes Go.ChangeAt Go.RowKit Go.Joins Go.Deep
set_option linter.unusedVariables false

/-- What a law is told of a slice of ids that came in. -/
def IdsIn (w : World) (a : Option Addr) (len cap : Nat) : Prop := len ≤ maxLen ∧ (1048576 < len ∨ ∃ C, Ids w (.slice a len cap) C)

theorem ids_of_fn {w : World} {x : Addr} {len cap : Nat} (f : Nat → Pid) (hl : len ≤ cap) (hm : cap ≤ maxLen)
    (h : ∀ i, i < len → w.cell? (x.add (i * 2)) = some (.int .i64 (f i).1) ∧ w.cell? (x.add (i * 2 + 1)) = some (.int .i64 (f i).2)) :
    IdsIn w (some x) len cap := by
  refine ⟨Nat.le_trans hl hm, ?_⟩
  by_cases hb : 1048576 < len
  · exact .inl hb
  · have hlen : ((List.range len).map f).length = len := by simp
    refine .inr ⟨(List.range len).map f, some x, cap, by rw [hlen], by omega, by omega, ?_⟩
    rw [hlen]
    by_cases h0 : len = 0
    · exact .inl h0
    · obtain ⟨b, off, spot⟩ := x
      have hc := (h 0 (by omega)).1
      have hspot : spot = none := by simpa [Addr.add] using World.cell?_spot hc
      subst hspot
      have ea : ∀ j, (⟨b, off, none⟩ : Addr).add j = ⟨b, off + j, none⟩ := fun j => by unfold Addr.add; split <;> simp_all
      refine .inr ⟨b, off, rfl, ?_, fun i hi => ?_⟩
      · have := World.block_lt_of_cell? w _ hc
        simpa [Addr.add] using this
      · have h1 := h i hi
        rw [ea, ea] at h1
        have hg : ((List.range len).map f).getD i nop = f i := by
          rw [List.getD_eq_getElem?_getD, List.getElem?_map, List.getElem?_range hi]; rfl
        rw [hg, Nat.add_assoc]
        exact h1

theorem int_of_trodP {H : Type} {enc : TypeId × Value → H} {w : World} {base : Nat} {spare : Nat → Bool} {held : Bool} {n : Nat} {v : Value} {y : DataW H × List MemPlace} (h : DataW.trod enc Tryd.prog w base spare held n 3 [v] = some y) : ∃ z, v = .int .i64 z := by obtain ⟨z, e, _, _⟩ := DataW.trod_int Tryd.underlying3 h; simp at e; exact ⟨z, e⟩

set_option maxRecDepth 100000 in
theorem ids_of_trod {H : Type} {enc : TypeId × Value → H} {w : World} {fuel : Nat} {a : Option Addr} {len cap : Nat} {x : DataW H × List MemPlace} (h : DataW.trod enc Tryd.prog w 0 (fun _ => true) true fuel 36 [.slice a len cap] = some x) : IdsIn w a len cap := by
  rcases open_slice Tryd.underlying36 h with ⟨hcs, _⟩ | ⟨a', len', cap', m, n, D, Pl, hcs, _, hl, hm, hmm, _, hx⟩
  · simp at hcs
    obtain ⟨rfl, rfl, rfl⟩ := hcs
    exact ⟨Nat.zero_le _, .inr ⟨[], none, 0, rfl, Nat.le_refl _, Nat.zero_le _, .inl rfl⟩⟩
  · simp at hcs
    obtain ⟨rfl, rfl, rfl⟩ := hcs
    simp at hmm
    subst hmm
    have each : ∀ i, i < len → ∃ c : Pid, w.cell? (a'.add (i * 2)) = some (.int .i64 c.1) ∧ w.cell? (a'.add (i * 2 + 1)) = some (.int .i64 c.2) := by
      intro i hi
      obtain ⟨cs', h1, h2⟩ := hx i (by omega)
      rw [cells_lawsId] at h1
      obtain ⟨_, hlen, hcell⟩ := World.cells?_some h1
      obtain ⟨xs, k, hk, hxy, _, hxl, hf⟩ := DataW.trod_struct Tryd.underlying60 h2
      match xs, hxl, cs', hlen with
      | [y0, y1], _, [v0, v1], _ =>
        have g0 := hf 0 _ rfl
        have g1 := hf 1 _ rfl
        have ci : Tryd.prog.cellsOf 3 = 1 := by kernel_rfl
        simp [ci] at g0 g1
        obtain ⟨z0, rfl⟩ := int_of_trodP g0
        obtain ⟨z1, rfl⟩ := int_of_trodP g1
        have e0 := hcell 0 (by omega)
        have e1 := hcell 1 (by omega)
        rw [add_add] at e0 e1
        exact ⟨(z0, z1), by simpa using e0, by simpa using e1⟩
    haveI : Inhabited Pid := ⟨nop⟩
    obtain ⟨f, hf⟩ := choose_lt (α := Pid) each
    exact ids_of_fn f hl hm hf
end Go.Proofs.YtigaepbhbfpijaaDoor

/- What the frames of the door seat of sets use: what the listed variable (math/bits' table) gives. (doorLaid's number: as the seat's Tie has it.) -/
namespace Go.Proofs.YtigaepbhbfpijaaDoor
open Go.ChangeShapes Go.WideShapes Go.ChangeAt Go.RowKit
set_option linter.unusedVariables false
set_option maxRecDepth 100000

theorem g_tab : Tryd.prog.globalNamed "math/bits.deBruijn64tab" = some 0 := by kernel_rfl
theorem gt_tab : (Tryd.prog.globals[0]?).map (·.type) = some 75 := by kernel_rfl
theorem c_tab : Tryd.prog.cellsOf 75 = 64 := by kernel_rfl
theorem c_u8 : Tryd.prog.cellsOf 5 = 1 := by kernel_rfl

/-- The table's numbers. -/
def tabZ : List Int := Lib.deBruijn64tab.map fun n : Nat => (n : Int)
/-- The rows' list. -/
def listed : List (String × DataW Unit) := [("math/bits.deBruijn64tab", Lib.tabData .u8 tabZ)]

theorem gl_of {W : World} (h : laidMetH Tryd.prog listed W) (hs : W.ShapedOpen Tryd.prog) : TabIn W := by
  have h : laidMet Tryd.prog listed W := by
    rw [MakeChecks.laidMetH_plain _ _ _ (by kernel_rfl)] at h; exact h
  have ht := Lib.tabIs_of_head (zs := tabZ) g_tab gt_tab Tryd.underlying75 Tryd.underlying5 c_u8 c_tab h
  intro j hj
  have hc := World.var?_cell g_tab ht j
  rw [hc, List.getElem?_toArray, List.getElem?_map]
  unfold tabZ
  rw [List.getElem?_map, List.getElem?_eq_getElem hj, List.getD_eq_getElem?_getD, List.getElem?_eq_getElem hj]
  rfl

/-- A world for the witness: as the door leaves it. -/
noncomputable def laidWorld (os : Os) : World := World.doorLaid Tryd.prog 14 os
theorem laid_met (os : Os) (args : Array Value) : laidMet Tryd.prog listed ((laidWorld os).forCall (fun _ _ => 0) ⟨#[], args, []⟩).memory :=
  laidMet_of_run' 8 (by kernel_rfl) (by kernel_rfl)
end Go.Proofs.YtigaepbhbfpijaaDoor

/- Plain facts on the last ids of replicas. -/
namespace Go.Proofs.YtigaepbhbfpijaaDoor
set_option linter.unusedVariables false

/-- The highest bit alone. -/
def latN (x : Nat) : Nat := if x = 0 then 0 else 2 ^ (Lib.bitLen x - 1)
def latF (f : Nat → Nat) : Nat → Nat := fun r => latN (f r)
theorem latN_bit {x n : Nat} (hx : x < 18446744073709551616) : (latN x).testBit n = true ↔ x.testBit n = true ∧ ∀ n', x.testBit n' = true → n' ≤ n := by
  unfold latN
  by_cases h0 : x = 0
  · subst h0; simp
  · rw [if_neg h0, Nat.testBit_two_pow, decide_eq_true_iff]
    obtain ⟨h1, h2, h3, h4⟩ := high_bit h0 hx
    constructor
    · rintro rfl
      refine ⟨h3, fun n' hn => ?_⟩
      rcases Nat.lt_or_ge n' (Lib.bitLen x) with h | h
      · omega
      · rw [h4 n' h] at hn; cases hn
    · rintro ⟨h5, h6⟩
      have := h6 _ h3
      rcases Nat.lt_or_ge n (Lib.bitLen x) with h | h
      · omega
      · rw [h4 n h] at h5; cases h5
theorem latN_lt {x : Nat} (h : x < 2251799813685248) : latN x < 2251799813685248 := by
  unfold latN
  split
  · decide
  · rename_i h0
    obtain ⟨h1, h2, h3, h4⟩ := high_bit h0 (by omega)
    have : Lib.bitLen x ≤ 51 := Lib.bitLen_le x 51 (by decide) h
    exact Nat.pow_lt_pow_right (n := 51) (by decide) (by omega)

def lastP : List Pid → List Pid
  | [] => []
  | [a] => [a]
  | a :: b :: r => if b.1 = a.1 then lastP (b :: r) else a :: lastP (b :: r)
theorem last_one (a : Pid) : lastP [a] = [a] := rfl
theorem last_same {a b : Pid} {r : List Pid} (h : b.1 = a.1) : lastP (a :: b :: r) = lastP (b :: r) := by rw [lastP, if_pos h]
theorem last_next {a b : Pid} {r : List Pid} (h : ¬ b.1 = a.1) : lastP (a :: b :: r) = a :: lastP (b :: r) := by rw [lastP, if_neg h]
theorem last_sub : ∀ L : List Pid, (lastP L).Sublist L
  | [] => List.Sublist.refl _
  | [a] => List.Sublist.refl _
  | a :: b :: r => by
    by_cases h : b.1 = a.1
    · rw [last_same h]; exact (last_sub (b :: r)).cons a
    · rw [last_next h]; exact (last_sub (b :: r)).cons_cons a
theorem last_asc {L : List Pid} (h : Asc L) : Asc (lastP L) := List.Pairwise.sublist (last_sub L) h
theorem mem_last : ∀ {L : List Pid}, Asc L → ∀ x, x ∈ lastP L ↔ x ∈ L ∧ ∀ y ∈ L, y.1 = x.1 → y.2 ≤ x.2
  | [], _, x => by simp [lastP]
  | [a], _, x => by
    rw [last_one]
    constructor
    · intro h
      have e := List.mem_singleton.1 h
      subst e
      exact ⟨h, fun y hy _ => by rw [List.mem_singleton.1 hy]; exact Int.le_refl _⟩
    · exact fun h => h.1
  | a :: b :: r, hA, x => by
    have hA' := List.pairwise_cons.1 hA
    have ih := mem_last hA'.2 x
    have hab := ltP_iff.1 (hA'.1 b List.mem_cons_self)
    by_cases h : b.1 = a.1
    · rw [last_same h, ih]
      constructor
      · rintro ⟨h1, h2⟩
        refine ⟨List.mem_cons_of_mem _ h1, fun y hy e => ?_⟩
        rcases List.mem_cons.1 hy with rfl | hy
        · have := ltP_iff.1 (hA'.1 x h1); omega
        · exact h2 y hy e
      · rintro ⟨h1, h2⟩
        rcases List.mem_cons.1 h1 with rfl | h1
        · have := h2 b (by simp) h; omega
        · exact ⟨h1, fun y hy e => h2 y (List.mem_cons_of_mem _ hy) e⟩
    · rw [last_next h, List.mem_cons, ih]
      constructor
      · rintro (rfl | ⟨h1, h2⟩)
        · refine ⟨List.mem_cons_self, fun y hy e => ?_⟩
          rcases List.mem_cons.1 hy with rfl | hy
          · exact Int.le_refl _
          · have hby : b = y ∨ ltP b y = true := by
              rcases List.mem_cons.1 hy with rfl | hy
              · exact .inl rfl
              · exact .inr ((List.pairwise_cons.1 hA'.2).1 y hy)
            rcases hby with rfl | hby
            · omega
            · have := ltP_iff.1 hby; omega
        · refine ⟨List.mem_cons_of_mem _ h1, fun y hy e => ?_⟩
          rcases List.mem_cons.1 hy with rfl | hy
          · have := ltP_iff.1 (hA'.1 x h1); omega
          · exact h2 y hy e
      · rintro ⟨h1, h2⟩
        rcases List.mem_cons.1 h1 with rfl | h1
        · exact .inl rfl
        · exact .inr ⟨h1, fun y hy e => h2 y (List.mem_cons_of_mem _ hy) e⟩

/-- What DepsLatest answers. -/
def latR (L : List Pid) : List Pid := if srtB L = true then lastP L else []
theorem latR_t {L : List Pid} (h : srtB L = true) : latR L = lastP L := if_pos h
theorem latR_f {L : List Pid} (h : srtB L = false) : latR L = [] := if_neg (by rw [h]; decide)
theorem latR_len (L : List Pid) : (latR L).length ≤ 12 := by
  unfold latR; split
  · rename_i h; exact Nat.le_trans (last_sub L).length_le (srt_of h).1
  · simp
theorem idsO_lat {L : List Pid} (h : srtB L = true) : idsO (latF (setF L)) = lastP L := by
  rw [setF_t h]
  obtain ⟨h1, h2, h3⟩ := srt_of h
  refine asc_ext (idsO_asc _) (last_asc h3) (fun x => ?_)
  rw [mem_idsO, mem_last h3]
  have hlt : ∀ r, mask L r < 18446744073709551616 := fun r => by have := mask_lt h2 r; omega
  constructor
  · rintro ⟨r, n, rfl, hr, hn, hb⟩
    unfold latF at hb
    rw [latN_bit (hlt r)] at hb
    refine ⟨(mask_bit h2 r n).1 hb.1, fun y hy e => ?_⟩
    obtain ⟨r', n', rfl, _⟩ := id_nat (List.all_eq_true.1 h2 y hy)
    dsimp only at e ⊢
    have e' : r' = r := by omega
    subst e'
    have := hb.2 n' ((mask_bit h2 r' n').2 hy)
    omega
  · rintro ⟨hx, hmax⟩
    obtain ⟨r, n, rfl, hr, hn, hn2⟩ := id_nat (List.all_eq_true.1 h2 x hx)
    refine ⟨r, n, rfl, hr, by omega, ?_⟩
    unfold latF
    rw [latN_bit (hlt r)]
    refine ⟨(mask_bit h2 r n).2 hx, fun n' hn' => ?_⟩
    have := hmax _ ((mask_bit h2 r n').1 hn') rfl
    dsimp only at this
    omega
end Go.Proofs.YtigaepbhbfpijaaDoor

/-
  DERIVED: THE SHELF's CONTRACTS AT THIS DUMP, IN PLAIN WORDS (tools/lay-plain.mjs out of 'TrydShelf.lean', which tools/lay-shelf.mjs wrote): THE SAME DECLARATIONS UNDER THE SAME NAMES: 'import', 'namespace', 'open', 'def', 'theorem' AND NOTHING ELSE: no command of the shelf's: FOR A HAND-IN. Each laying: the table of numbers ('.._ren') and one theorem, a field a fact of the dump's own or the kernel's comparison; each contract: ONE APPLICATION.
-/
namespace Go.Proofs
open Go.Shelf
def Tryd.lays129_ren : Go.Shelf.Ren := ⟨fun | 129 => 52 | n => n, fun | 53 => 45 | 3 => 3 | 4 => 4 | 46 => 74 | 5 => 5 | 9 => 9 | n => n, fun | n => n⟩
theorem Tryd.lays129 : Go.Proofs.Lays.n129 Tryd.prog Tryd.lays129_ren := {
  mixed := by kernel_rfl
  f129 := Tryd.func52.trans (congrArg some (by kernel_rfl))
  t3 := Tryd.underlying3
  a3 := Tryd.isAgg3
  z3 := Tryd.sizeOf3
  v3 := Tryd.zeroValue3
  t4 := Tryd.underlying4
  a4 := Tryd.isAgg4
  z4 := Tryd.sizeOf4
  v4 := Tryd.zeroValue4
  t5 := Tryd.underlying5
  a5 := Tryd.isAgg5
  z5 := Tryd.sizeOf5
  v5 := Tryd.zeroValue5
  t9 := Tryd.underlying9
  a9 := Tryd.isAgg9
  z9 := Tryd.sizeOf9
  v9 := Tryd.zeroValue9
  t46 := Tryd.underlying74
  a46 := Tryd.isAgg74
  z46 := Tryd.sizeOf74
  v46 := Tryd.zeroValue74
  t53 := Tryd.underlying45
  a53 := Tryd.isAgg45
  z53 := Tryd.sizeOf45
  v53 := Tryd.zeroValue45 }
/-- bits.Len64: "Len64 returns the minimum number of bits required to represent x; the result is 0 for x == 0.": IT RETURNS 'Lib.bitLen x'; the world is as it was. ('h0', 'h1': x is a uint64.) (LAID: no walk: one application.) -/
theorem Tryd.bits_Len64 (x : Int) (w : World) (h0 : 0 ≤ x) (h1 : x ≤ 18446744073709551615) :
    Calls Tryd.prog 52 #[.int .u64 x] w fun e w' => e = .returned (.int .i64 (Lib.bitLen x.toNat)) ∧ w' = w := Any.bits_Len64 Tryd.lays129 x w h0 h1
end Go.Proofs

/- The program's latest and DepsLatest. -/
namespace Go.Proofs.YtigaepbhbfpijaaDoor
open Go.RowKit
set_option linter.unusedVariables false

def latU (f : Nat → Nat) (r : Nat) : Nat → Nat := fun i => if i < r then latF f i else 0
theorem latU_five (f : Nat → Nat) {w : World} {b : Nat} (h : Set5 w b (latU f 5)) : Set5 w b (latF f) := h
theorem lat_res (tm : Array Value) (w : World) (b : Nat) (g : Nat → Nat) (h2 : tm[2]? = some (.pointer (some ⟨b, 0, none⟩))) (h : Set5 w b g) :
    (results Tryd.f39 tm).run Tryd.prog w = .ok (setV g) w := by
  obtain ⟨t0, t1, t2, t3, t4⟩ := h.five
  simp [results, Tryd.results39, go_sem, setV, h2, t0, t1, t2, t3, t4]
theorem two_pow_u64 (n : Nat) (h : n < 64) : IntKind.u64.wrap ((2 : Int) ^ n) = (2 : Int) ^ n := by
  have := one_shl n h
  rw [Int.one_mul, show ((2 ^ n : Nat) : Int) = (2 : Int) ^ n from Int.natCast_pow 2 n] at this; exact this

theorem len_any (m : Nat) (w : World) (h : m < 18446744073709551616) :
    Calls Tryd.prog 52 #[.int .u64 m] w fun e w' => e = .returned (.int .i64 (Lib.bitLen m)) ∧ w = w' := by
  refine (Tryd.bits_Len64 (m : Int) w (by omega) (by omega)).mono fun e w' h => ⟨?_, h.2.symm⟩
  rw [h.1, Int.toNat_natCast]

set_option maxRecDepth 100000 in
set_option maxHeartbeats 4000000 in
theorem lat_any (f : Nat → Nat) (w : World) (hf : ∀ r, f r < 2251799813685248) :
    Calls Tryd.prog 39 #[setV f] w fun e w' => e = .returned (setV (latF f)) ∧ Below w.heap.size w w' := by
  have ki : ∀ (r : Nat), r < 5 → ∀ w : World, (Instr.index 47 (.agg #[.int .u64 (f 0), .int .u64 (f 1), .int .u64 (f 2), .int .u64 (f 3), .int .u64 (f 4)]) (.int .i64 r)).run Tryd.prog w = .ok (.int .u64 (f r)) w := by
    intro r hr w
    rcases (show r = 0 ∨ r = 1 ∨ r = 2 ∨ r = 3 ∨ r = 4 by omega) with rfl | rfl | rfl | rfl | rfl
    · exact sx_i0 _ _ _ _ _ w
    · exact sx_i1 _ _ _ _ _ w
    · exact sx_i2 _ _ _ _ _ w
    · exact sx_i3 _ _ _ _ _ w
    · exact sx_i4 _ _ _ _ _ w
  have ki := Lib.hid ki
  have hf := Lib.hid hf
  obtain ⟨G, hG⟩ : ∃ G, Hid (G = latF f) := ⟨_, Lib.hid rfl⟩
  rw [← hG.out]
  unfold setV
  go_enter Tryd.func39, Tryd.ntmps39
  go_wp2_with fail
  go_loopw [7] (fun i wr => ∃ r : Nat, r ≤ 5 ∧ i = .int .i64 r ∧ Hid (Set5 wr (w.heap.size + 1) fun _ => 0) ∧ Hid (Set5 wr (w.heap.size + 1 + 1) (latU f r)) ∧ Hid (Below w.heap.size w wr)) (fun i _ => 5 - (intOf i).toNat)
  case atStart => exact ⟨0, Nat.zero_le _, rfl, Lib.hid ((Below.heap_alloc _ _ _ (by simp)).trans (heap_alloc_at _ _ _ (by simp))), Lib.hid (heap_alloc_at _ _ _ (by simp)), Lib.hid ((((Below.refl _ _).alloc (Nat.le_refl _) _).alloc (by simp) _).alloc (by simp; omega) _)⟩
  case round =>
    obtain ⟨r, hr, rfl, hZ, hS, hD⟩ := hrel
    by_cases hlt : r < 5
    · have kk := ki.out r hlt
      have hfr := hf.out r
      by_cases hm0 : f r = 0
      · have hm0n : (((f r : Nat) : Int) != 0) = false := by simpa using hm0
        have hS' : Hid (Set5 wr (w.heap.size + 1 + 1) (latU f (r + 1))) := Lib.hid (by
          rw [show latU f (r + 1) = latU f r from ?_]; exact hS.out
          funext i
          unfold latU
          by_cases h1 : i < r
          · rw [if_pos h1, if_pos (by omega)]
          · rw [if_neg h1]
            by_cases h2 : i = r
            · subst h2
              rw [if_pos (by omega)]
              unfold latF; rw [hm0]; rfl
            · rw [if_neg (by omega)])
        clear hfr hS hm0 kk
        go_wp2_with fail
        go_roundw
        case rel => exact ⟨r + 1, by omega, by go_num, hZ, hS', hD⟩
        case measure => simp [intOf]; omega
      · have hm0n : (((f r : Nat) : Int) != 0) = true := by simpa using hm0
        obtain ⟨h1, h2, _, _⟩ := high_bit hm0 (by omega)
        have sl := fun w => len_any (f r) w (by omega)
        have hval : latF f r = 2 ^ (Lib.bitLen (f r) - 1) := by unfold latF latN; rw [if_neg hm0]
        generalize Lib.bitLen (f r) = L at sl h1 h2 hval
        obtain ⟨l, rfl⟩ : ∃ l, L = l + 1 := ⟨L - 1, by omega⟩
        rw [Nat.add_sub_cancel] at hval
        have wl : IntKind.i64.wrap ((l : Int) + 1 - 1) = (l : Int) := by rw [show (l : Int) + 1 - 1 = l by omega]; exact IntWalk.i64_in _ (by omega)
        have l0 : (0 : Int) ≤ (l : Int) := by omega
        have l1 : (l : Int) ≤ 64 := by omega
        have sh := two_pow_u64 l (by omega)
        have ep : ((2 ^ l : Nat) : Int) = (2 : Int) ^ l := Int.natCast_pow 2 l
        have hput : Hid (Set5 (wr.setCell ⟨w.heap.size + 1 + 1, r, none⟩ (.int .u64 ((2 : Int) ^ l))) (w.heap.size + 1 + 1) (latU f (r + 1))) := Lib.hid (by
          have := hS.out.put (r := r) (x := 2 ^ l) (g := latU f (r + 1)) hlt (by unfold latU; rw [if_pos (by omega)]; exact hval) (fun i hi hne => by
            unfold latU
            by_cases h1 : i < r
            · rw [if_pos h1, if_pos (by omega)]
            · rw [if_neg h1, if_neg (by omega)])
          rw [ep] at this; exact this)
        have hZ' := Lib.hid (Set5.other hZ.out (w.heap.size + 1 + 1) r (.int .u64 ((2 : Int) ^ l)) (by omega))
        have c0 := hS.out.cell hlt
        have f0 := hS.out.free r
        clear hval hfr hm0 ep hS hZ kk
        go_wp2_with fail
        refine (sl _).mono ?_
        rintro e w3 ⟨rfl, rfl⟩
        clear sl
        go_wp2_with fail
        go_roundw
        case rel => exact ⟨r + 1, by omega, by go_num, hZ', hput, Lib.hid (hD.out.setCell (by show _ ≤ w.heap.size + 1 + 1; omega) _)⟩
        case measure => simp [intOf]; omega
    · obtain rfl : r = 5 := by omega
      have hS' := hS.out
      obtain ⟨s0, s1, s2, s3, s4⟩ := hS'.five
      obtain ⟨t0, t1, t2, t3, t4⟩ := hZ.out.five
      have hz := hZ.out.free
      have f0 := hz 0; have f1 := hz 1; have f2 := hz 2; have f3 := hz 3; have f4 := hz 4
      have e0 : latU f 5 0 = G 0 := by rw [hG.out]; rfl
      have e1 : latU f 5 1 = G 1 := by rw [hG.out]; rfl
      have e2 : latU f 5 2 = G 2 := by rw [hG.out]; rfl
      have e3 : latU f 5 3 = G 3 := by rw [hG.out]; rfl
      have e4 : latU f 5 4 = G 4 := by rw [hG.out]; rfl
      rw [e0] at s0; rw [e1] at s1; rw [e2] at s2; rw [e3] at s3; rw [e4] at s4
      have T3 := Lib.hid (hZ.out.fill G)
      clear hz e0 e1 e2 e3 e4 hS hS' hG ki hf
      go_wp2_with fail
      exact bodyPost_ret (lat_res _ _ (w.heap.size + 1) _ rfl T3.out) rfl ⟨rfl, (((((hD.out.setCell (Nat.le_succ _) _).setCell (Nat.le_succ _) _).setCell (Nat.le_succ _) _).setCell (Nat.le_succ _) _).setCell (Nat.le_succ _) _)⟩

/-- What DepsLatest leaves. -/
def LatPost (R : List Pid) (w : World) (e : Ending) (w' : World) : Prop :=
  ∃ b u, w.heap.size ≤ b ∧ e = .returned u ∧ OwnP w' b u R ∧ Below w.heap.size w w'

set_option maxRecDepth 100000 in
set_option maxHeartbeats 2000000 in
theorem dlat_any (u : Value) (A : List Pid) (w : World) (h : Ids w u A) (hT : TabIn w) :
    Calls Tryd.prog 21 #[u] w (LatPost (latR A) w) := by
  have h := Lib.hid h
  have hT := Lib.hid hT
  have sl := fun w => lat_any (setF A) w (setF_lt A)
  have si := fun w h => idso_any (latF (setF A)) w (fun r => latN_lt (setF_lt A r)) h
  have hval : Hid (srtB A = true → idsO (latF (setF A)) = lastP A) := Lib.hid idsO_lat
  obtain ⟨f, hf⟩ : ∃ f, Hid (setF A = f) := ⟨_, Lib.hid rfl⟩
  rw [hf.out] at sl si hval
  generalize latF f = g at sl si hval
  obtain ⟨q, hq⟩ : ∃ q, Hid (srtB A = q) := ⟨_, Lib.hid rfl⟩
  obtain ⟨S, hR⟩ : ∃ S, Hid (latR A = S) := ⟨_, Lib.hid rfl⟩
  rw [hR.out]
  unfold setV at sl si
  go_enter Tryd.func21, Tryd.ntmps21
  go_wp2_with fail
  refine (iset_any u A _ h.out).mono ?_
  rintro e w1 ⟨rfl, hb⟩
  rw [hf.out, hq.out]
  have D1 := Lib.hid (hb.alloc hb.size (.cells #[.int .u64 (f 0), .int .u64 (f 1), .int .u64 (f 2), .int .u64 (f 3), .int .u64 (f 4)] 47))
  have s1 := hb.size
  clear hb h
  unfold setV
  cases q
  · have hR2 := hR.out
    rw [latR_f hq.out] at hR2
    subst hR2
    have N1 := Lib.hid (ownP_nil (w1.alloc (.cells #[.int .u64 (f 0), .int .u64 (f 1), .int .u64 (f 2), .int .u64 (f 3), .int .u64 (f 4)] 47)) 31)
    clear sl si hval
    go_wp2_with fail
    go_ret
    exact ⟨w1.heap.size + 1, _, by omega, rfl, by simpa using N1.out, D1.out.alloc D1.out.size _⟩
  · have hv := hval.out hq.out
    have hR2 := hR.out
    rw [latR_t hq.out] at hR2
    rw [hR2] at hv
    have hv := Lib.hid hv
    clear hval hR2
    go_wp2_with fail
    refine (sl _).mono ?_
    rintro e w2 ⟨rfl, hb⟩
    have D2 := Lib.hid (bstep D1.out hb)
    clear hb D1 sl
    go_wp2_with fail
    refine (si _ (hT.out.up D2.out (Nat.le_refl _))).mono ?_
    rintro e w3 ⟨b, v, hbb, rfl, hO, hb⟩
    have hbb2 := Nat.le_trans D2.out.size hbb
    have D3 := Lib.hid (bstep D2.out hb)
    rw [hv.out] at hO
    have hO := Lib.hid hO
    clear hb D2 si
    go_wp2_with fail
    go_ret
    exact ⟨b, _, hbb2, rfl, hO.out, D3.out⟩
end Go.Proofs.YtigaepbhbfpijaaDoor
