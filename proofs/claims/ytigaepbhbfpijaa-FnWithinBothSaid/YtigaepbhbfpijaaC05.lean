/- Texts laid together. -/
import Derived.Test.YtigaepbhbfpijaaC01
import Derived.Test.YtigaepbhbfpijaaC02
import Derived.Test.YtigaepbhbfpijaaC03
import Derived.Test.YtigaepbhbfpijaaC04
import Derived.Deep.Slices
import Derived.Deep.RegionHeld3
import Derived.Deep.RegionWith
/- The laws' sizes of slices of ids. -/
namespace Go.Proofs.Ytigaepbhbfpijaa
open Go.RowKit
set_option linter.unusedVariables false

theorem szP_any (a : Option Addr) (n cap : Nat) (k : Int) (w : World) (hk : k = 1048576) (h : n ≤ 9223372036854775807) :
    Calls Try.prog 14 #[.slice a n cap, .int .i64 k] w fun e w' => e = .returned (.int .i64 (if 1048576 < n then -1 else 1048576 - n)) ∧ Below w.heap.size w w' := by
  subst hk
  by_cases hl : 1048576 < n
  · rw [if_pos hl]
    go_enter Try.func14, Try.ntmps14
    go_wp2_with fail
    go_ret
    exact ⟨rfl, Below.refl _ _⟩
  · rw [if_neg hl]
    go_enter Try.func14, Try.ntmps14
    go_wp2_with fail
    go_ret
    exact ⟨rfl, Below.refl _ _⟩

/-- .. with whatever is left. -/
theorem szP_gen (a : Option Addr) (n cap : Nat) (k : Int) (w : World) (hk : 0 ≤ k) (hk2 : k ≤ 1048576) (h : n ≤ 9223372036854775807) :
    Calls Try.prog 14 #[.slice a n cap, .int .i64 k] w fun e w' => e = .returned (.int .i64 (if k < n then -1 else k - n)) ∧ Below w.heap.size w w' := by
  by_cases hl : k < n
  · rw [if_pos hl]
    go_enter Try.func14, Try.ntmps14
    go_wp2_with fail
    go_ret
    exact ⟨rfl, Below.refl _ _⟩
  · rw [if_neg hl]
    go_enter Try.func14, Try.ntmps14
    go_wp2_with fail
    go_ret
    exact ⟨rfl, Below.refl _ _⟩
end Go.Proofs.Ytigaepbhbfpijaa

/- The walk of FnExactDepsValid. -/
namespace Go.Proofs.Ytigaepbhbfpijaa
open Go.RowKit
set_option linter.unusedVariables false

set_option maxRecDepth 100000 in
set_option maxHeartbeats 4000000 in
theorem exDepsValid_any (a : Option Addr) (len cap : Nat) (w : World) (hlm : len ≤ maxLen) (h : 1048576 < len ∨ ∃ C, Ids w (.slice a len cap) C) :
    Calls Try.prog 5 #[.slice a len cap] w fun e w' => e = .returned (.bool true) ∧ Below w.heap.size w w' := by
  have hm : len ≤ 9223372036854775807 := by simpa [maxLen] using hlm
  clear hlm
  have sz := szP_any a len cap 1048576
  by_cases hl : 1048576 < len
  · rw [if_pos hl] at sz
    clear h
    go_enter Try.func5, Try.ntmps5
    go_wp2_with fail
    refine (sz _ (by trivial) hm).mono ?_
    rintro e w1 ⟨rfl, hb⟩
    have D1 := Lib.hid hb
    clear hb sz
    go_wp2_with fail
    go_ret
    exact ⟨rfl, D1.out⟩
  · rw [if_neg hl] at sz
    obtain ⟨C, hU⟩ := h.resolve_left hl
    have hU := Lib.hid hU
    have sv := fun u w h => sval_any u C w h
    have iv := fun u w h => ival_any u C w h
    generalize srtB C = q at sv iv
    clear h
    go_enter Try.func5, Try.ntmps5
    go_wp2_with fail
    refine (sz _ (by trivial) hm).mono ?_
    rintro e w1 ⟨rfl, hb⟩
    have D1 := Lib.hid hb
    clear hb sz
    go_wp2_with fail
    refine (toP_any _ C _ (hU.out.up D1.out (Nat.le_refl _))).mono ?_
    rintro e w2 ⟨b2, u2, hb2, rfl, O2, B⟩
    have D2 := Lib.hid (bstep D1.out B)
    have O2 := Lib.hid O2
    clear B D1
    go_wp2_with fail
    refine (sv _ _ O2.out.read).mono ?_
    rintro e w3 ⟨rfl, B⟩
    have D3 := Lib.hid (bstep D2.out B)
    clear B D2 O2
    go_wp2_with fail
    refine (toP_any _ C _ (hU.out.up D3.out (Nat.le_refl _))).mono ?_
    rintro e w4 ⟨b4, u4, hb4, rfl, O4, B⟩
    have D4 := Lib.hid (bstep D3.out B)
    have O4 := Lib.hid O4
    clear B D3
    go_wp2_with fail
    refine (iv _ _ O4.out.read).mono ?_
    rintro e w5 ⟨rfl, B⟩
    have D5 := Lib.hid (bstep D4.out B)
    have O5 := Lib.hid (O4.out.up B O4.out.lt)
    clear B D4 O4
    go_wp2_with fail
    refine (toP_any _ C _ (hU.out.up D5.out (Nat.le_refl _))).mono ?_
    rintro e w6 ⟨b6, u6, hb6, rfl, O6, B⟩
    have D6 := Lib.hid (bstep D5.out B)
    have O7 := Lib.hid (O5.out.up B O5.out.lt)
    have O6 := Lib.hid O6
    clear B D5 O5
    go_wp2_with fail
    refine (eqP_any _ _ C _ O7.out.read O6.out.read).mono ?_
    rintro e w7 ⟨rfl, B⟩
    have D7 := Lib.hid (bstep D6.out B)
    clear B D6 O6 O7
    go_wp2_with fail
    go_ret
    exact ⟨rfl, D7.out⟩
end Go.Proofs.Ytigaepbhbfpijaa

/- What the frames of laws over slices of ids use. -/
namespace Go.Proofs.Ytigaepbhbfpijaa
open Go.ChangeShapes Go.WideShapes Go.ChangeAt Go.RowKit Go.Joins Go.Deep
set_option linter.unusedVariables false

/-- What a law is told of a slice of ids that came in. -/
def IdsIn (w : World) (a : Option Addr) (len cap : Nat) : Prop := len ≤ maxLen ∧ (1048576 < len ∨ ∃ C, Ids w (.slice a len cap) C)

theorem ids_of_fn {w : World} {x : Addr} {len cap : Nat} (f : Nat → Pid) (hl : len ≤ cap) (hm : cap ≤ maxLen)
    (h : ∀ i, i < len → w.cell? (x.add (i * 2)) = some (.int .i64 (f i).1) ∧ w.cell? (x.add (i * 2 + 1)) = some (.int .i64 (f i).2)) :
    IdsIn w (some x) len cap := by
  refine ⟨Nat.le_trans hl hm, ?_⟩
  by_cases hb : 1048576 < len
  · exact .inl hb
  · have hlen : ((List.range len).map f).length = len := by simp
    refine .inr ⟨(List.range len).map f, some x, cap, by rw [hlen], by omega, by omega, ?_⟩
    rw [hlen]
    by_cases h0 : len = 0
    · exact .inl h0
    · obtain ⟨b, off, spot⟩ := x
      have hc := (h 0 (by omega)).1
      have hspot : spot = none := by simpa [Addr.add] using World.cell?_spot hc
      subst hspot
      have ea : ∀ j, (⟨b, off, none⟩ : Addr).add j = ⟨b, off + j, none⟩ := fun j => by unfold Addr.add; split <;> simp_all
      refine .inr ⟨b, off, rfl, ?_, fun i hi => ?_⟩
      · have := World.block_lt_of_cell? w _ hc
        simpa [Addr.add] using this
      · have h1 := h i hi
        rw [ea, ea] at h1
        have hg : ((List.range len).map f).getD i nop = f i := by
          rw [List.getD_eq_getElem?_getD, List.getElem?_map, List.getElem?_range hi]; rfl
        rw [hg, Nat.add_assoc]
        exact h1

theorem int_of_trodP {H : Type} {enc : TypeId × Value → H} {w : World} {base : Nat} {spare : Nat → Bool} {held : Bool} {n : Nat} {v : Value} {y : DataW H × List MemPlace} (h : DataW.trod enc Try.prog w base spare held n 3 [v] = some y) : ∃ z, v = .int .i64 z := by obtain ⟨z, e, _, _⟩ := DataW.trod_int Try.underlying3 h; simp at e; exact ⟨z, e⟩

set_option maxRecDepth 100000 in
theorem ids_of_trod {H : Type} {enc : TypeId × Value → H} {w : World} {fuel : Nat} {a : Option Addr} {len cap : Nat} {x : DataW H × List MemPlace} (h : DataW.trod enc Try.prog w 0 (fun _ => true) true fuel 31 [.slice a len cap] = some x) : IdsIn w a len cap := by
  rcases open_slice Try.underlying31 h with ⟨hcs, _⟩ | ⟨a', len', cap', m, n, D, Pl, hcs, _, hl, hm, hmm, _, hx⟩
  · simp at hcs
    obtain ⟨rfl, rfl, rfl⟩ := hcs
    exact ⟨Nat.zero_le _, .inr ⟨[], none, 0, rfl, Nat.le_refl _, Nat.zero_le _, .inl rfl⟩⟩
  · simp at hcs
    obtain ⟨rfl, rfl, rfl⟩ := hcs
    simp at hmm
    subst hmm
    have each : ∀ i, i < len → ∃ c : Pid, w.cell? (a'.add (i * 2)) = some (.int .i64 c.1) ∧ w.cell? (a'.add (i * 2 + 1)) = some (.int .i64 c.2) := by
      intro i hi
      obtain ⟨cs', h1, h2⟩ := hx i (by omega)
      rw [cells_lawsId] at h1
      obtain ⟨_, hlen, hcell⟩ := World.cells?_some h1
      obtain ⟨xs, k, hk, hxy, _, hxl, hf⟩ := DataW.trod_struct Try.underlying52 h2
      match xs, hxl, cs', hlen with
      | [y0, y1], _, [v0, v1], _ =>
        have g0 := hf 0 _ rfl
        have g1 := hf 1 _ rfl
        have ci : Try.prog.cellsOf 3 = 1 := by kernel_rfl
        simp [ci] at g0 g1
        obtain ⟨z0, rfl⟩ := int_of_trodP g0
        obtain ⟨z1, rfl⟩ := int_of_trodP g1
        have e0 := hcell 0 (by omega)
        have e1 := hcell 1 (by omega)
        rw [add_add] at e0 e1
        exact ⟨(z0, z1), by simpa using e0, by simpa using e1⟩
    haveI : Inhabited Pid := ⟨nop⟩
    obtain ⟨f, hf⟩ := choose_lt (α := Pid) each
    exact ids_of_fn f hl hm hf
end Go.Proofs.Ytigaepbhbfpijaa

/- The program's join of two sets. -/
namespace Go.Proofs.Ytigaepbhbfpijaa
open Go.RowKit
set_option linter.unusedVariables false

theorem sx_i0 (x0 x1 x2 x3 x4 : Value) (w : World) : (Instr.index 44 (.agg #[x0, x1, x2, x3, x4]) (.int .i64 0)).run Try.prog w = .ok x0 w := by kernel_rfl
theorem sx_i1 (x0 x1 x2 x3 x4 : Value) (w : World) : (Instr.index 44 (.agg #[x0, x1, x2, x3, x4]) (.int .i64 1)).run Try.prog w = .ok x1 w := by kernel_rfl
theorem sx_i2 (x0 x1 x2 x3 x4 : Value) (w : World) : (Instr.index 44 (.agg #[x0, x1, x2, x3, x4]) (.int .i64 2)).run Try.prog w = .ok x2 w := by kernel_rfl
theorem sx_i3 (x0 x1 x2 x3 x4 : Value) (w : World) : (Instr.index 44 (.agg #[x0, x1, x2, x3, x4]) (.int .i64 3)).run Try.prog w = .ok x3 w := by kernel_rfl
theorem sx_i4 (x0 x1 x2 x3 x4 : Value) (w : World) : (Instr.index 44 (.agg #[x0, x1, x2, x3, x4]) (.int .i64 4)).run Try.prog w = .ok x4 w := by kernel_rfl

theorem join_res (tm : Array Value) (w : World) (b : Nat) (g : Nat → Nat) (h4 : tm[4]? = some (.pointer (some ⟨b, 0, none⟩))) (h : Set5 w b g) :
    (results Try.f32 tm).run Try.prog w = .ok (setV g) w := by
  obtain ⟨t0, t1, t2, t3, t4⟩ := h.five
  simp [results, Try.results32, go_sem, setV, h4, t0, t1, t2, t3, t4]

def joinF (f g : Nat → Nat) : Nat → Nat := fun r => f r ||| g r

set_option maxRecDepth 100000 in
set_option maxHeartbeats 4000000 in
theorem join_any (f g : Nat → Nat) (w : World) (hf : ∀ r, f r < 2251799813685248) (hg : ∀ r, g r < 2251799813685248) :
    Calls Try.prog 32 #[setV f, setV g] w fun e w' => e = .returned (setV (joinF f g)) ∧ Below w.heap.size w w' := by
  have ob : ∀ r, bits .or .u64 (f r : Int) (g r : Int) = ((joinF f g r : Nat) : Int) := fun r => bits_or_u64_nat _ _ (by have := hf r; omega) (by have := hg r; omega)
  have o0 := ob 0; have o1 := ob 1; have o2 := ob 2; have o3 := ob 3; have o4 := ob 4
  clear ob hf hg
  unfold setV
  obtain ⟨j, hj⟩ : ∃ j, Hid (joinF f g = j) := ⟨_, Lib.hid rfl⟩
  rw [hj.out] at o0 o1 o2 o3 o4 ⊢
  have k0 := fun w => sx_i0 (.int .u64 (g 0)) (.int .u64 (g 1)) (.int .u64 (g 2)) (.int .u64 (g 3)) (.int .u64 (g 4)) w
  have k1 := fun w => sx_i1 (.int .u64 (g 0)) (.int .u64 (g 1)) (.int .u64 (g 2)) (.int .u64 (g 3)) (.int .u64 (g 4)) w
  have k2 := fun w => sx_i2 (.int .u64 (g 0)) (.int .u64 (g 1)) (.int .u64 (g 2)) (.int .u64 (g 3)) (.int .u64 (g 4)) w
  have k3 := fun w => sx_i3 (.int .u64 (g 0)) (.int .u64 (g 1)) (.int .u64 (g 2)) (.int .u64 (g 3)) (.int .u64 (g 4)) w
  have k4 := fun w => sx_i4 (.int .u64 (g 0)) (.int .u64 (g 1)) (.int .u64 (g 2)) (.int .u64 (g 3)) (.int .u64 (g 4)) w
  go_enter Try.func32, Try.ntmps32
  go_wp2_with fail
  refine wp_loop_rounds 6 ?_
  rw [rounds_succ]
  go_wp2_with fail
  rw [rounds_succ]
  go_wp2_with fail
  rw [rounds_succ]
  go_wp2_with fail
  rw [rounds_succ]
  go_wp2_with fail
  rw [rounds_succ]
  go_wp2_with fail
  rw [rounds_succ]
  go_wp2_with fail
  exact bodyPost_ret (join_res _ _ (w.heap.size + 1 + 1) j rfl (heap_alloc_at _ _ _ (by simp))) rfl ⟨rfl, (((Below.refl _ _).alloc (Nat.le_refl _) _).alloc (by simp) _).alloc (by simp; omega) _⟩
end Go.Proofs.Ytigaepbhbfpijaa

/- The program's within, of sets. -/
namespace Go.Proofs.Ytigaepbhbfpijaa
open Go.RowKit
set_option linter.unusedVariables false

/-- Two sets are compared. -/
theorem set_eq (x0 x1 x2 x3 x4 y0 y1 y2 y3 y4 : Int) (w : World) : (binOp .eql 44 (.agg #[.int .u64 x0, .int .u64 x1, .int .u64 x2, .int .u64 x3, .int .u64 x4]) (.agg #[.int .u64 y0, .int .u64 y1, .int .u64 y2, .int .u64 y3, .int .u64 y4])).run Try.prog w = .ok (.bool (decide ([x0, x1, x2, x3, x4] = [y0, y1, y2, y3, y4]))) w := by
  have hp : ∀ (cs : Array Value) (k : Nat) (v : Value), cs[k]? = some v → (part 42 cs k).run Try.prog w = .ok v w := by
    intro cs k v h
    have ha : (isAgg 42).run Try.prog w = .ok false w := by kernel_rfl
    simp [part, ha, h]
  have hs : (sizeOf 42).run Try.prog w = .ok 1 w := by kernel_rfl
  have hu : (underlying 44).run Try.prog w = .ok (.array 5 42) w := by kernel_rfl
  rw [run_eql_struct, show (10000:Nat) = 9998+1+1 from rfl]
  have he : ∀ a b : Int, (Op.equalIn (9998 + 1) 42 (.int .u64 a) (.int .u64 b)).run Try.prog w = .ok (a == b) w := fun a b => run_equalIn_int _ _ _ _ .u64 _ _ Try.underlying42
  rw [Op.equalIn]
  simp [hu, hs, hp, he, Std.Legacy.Range.forIn_eq_forIn_range', Std.Legacy.Range.size, List.range'_succ, List.range'_zero, List.forIn_cons, List.forIn_nil]
  by_cases h0 : x0 = y0 <;> by_cases h1 : x1 = y1 <;> by_cases h2 : x2 = y2 <;> by_cases h3 : x3 = y3 <;> by_cases h4 : x4 = y4 <;> simp [h0, h1, h2, h3, h4]

theorem five_iff (f g : Nat → Nat) : ([(f 0 : Int), (f 1 : Int), (f 2 : Int), (f 3 : Int), (f 4 : Int)] = [(g 0 : Int), (g 1 : Int), (g 2 : Int), (g 3 : Int), (g 4 : Int)]) ↔ ∀ r, r < 5 → f r = g r := by
  constructor
  · intro h r hr
    injection h with h0 h; injection h with h1 h; injection h with h2 h; injection h with h3 h; injection h with h4 h
    rcases (show r = 0 ∨ r = 1 ∨ r = 2 ∨ r = 3 ∨ r = 4 by omega) with rfl | rfl | rfl | rfl | rfl <;> omega
  · intro h
    rw [h 0 (by omega), h 1 (by omega), h 2 (by omega), h 3 (by omega), h 4 (by omega)]

/-- What within answers. -/
def inF (f g : Nat → Nat) : Bool := decide (joinF f g 0 = g 0 ∧ joinF f g 1 = g 1 ∧ joinF f g 2 = g 2 ∧ joinF f g 3 = g 3 ∧ joinF f g 4 = g 4)
theorem five_all (P : Nat → Prop) : (P 0 ∧ P 1 ∧ P 2 ∧ P 3 ∧ P 4) ↔ ∀ r, r < 5 → P r := by
  constructor
  · rintro ⟨h0, h1, h2, h3, h4⟩ r hr
    rcases (show r = 0 ∨ r = 1 ∨ r = 2 ∨ r = 3 ∨ r = 4 by omega) with rfl | rfl | rfl | rfl | rfl <;> assumption
  · intro h
    exact ⟨h 0 (by omega), h 1 (by omega), h 2 (by omega), h 3 (by omega), h 4 (by omega)⟩
theorem inF_iff {f g : Nat → Nat} : inF f g = true ↔ ∀ r, r < 5 → joinF f g r = g r := by
  unfold inF; rw [decide_eq_true_iff]; exact five_all fun r => joinF f g r = g r

theorem ten_up {w wr w' : World} {p q : Nat} {x0 x1 x2 x3 x4 y0 y1 y2 y3 y4 : Value} (B : Below wr.heap.size wr w') (h : ((wr.cell? ⟨p, 0, none⟩ = some x0 ∧ wr.cell? ⟨p, 1, none⟩ = some x1 ∧ wr.cell? ⟨p, 2, none⟩ = some x2 ∧ wr.cell? ⟨p, 3, none⟩ = some x3 ∧ wr.cell? ⟨p, 4, none⟩ = some x4) ∧ wr.cell? ⟨q, 0, none⟩ = some y0 ∧ wr.cell? ⟨q, 1, none⟩ = some y1 ∧ wr.cell? ⟨q, 2, none⟩ = some y2 ∧ wr.cell? ⟨q, 3, none⟩ = some y3 ∧ wr.cell? ⟨q, 4, none⟩ = some y4) ∧ Below w.heap.size w wr) : ((w'.cell? ⟨p, 0, none⟩ = some x0 ∧ w'.cell? ⟨p, 1, none⟩ = some x1 ∧ w'.cell? ⟨p, 2, none⟩ = some x2 ∧ w'.cell? ⟨p, 3, none⟩ = some x3 ∧ w'.cell? ⟨p, 4, none⟩ = some x4) ∧ w'.cell? ⟨q, 0, none⟩ = some y0 ∧ w'.cell? ⟨q, 1, none⟩ = some y1 ∧ w'.cell? ⟨q, 2, none⟩ = some y2 ∧ w'.cell? ⟨q, 3, none⟩ = some y3 ∧ w'.cell? ⟨q, 4, none⟩ = some y4) ∧ Below w.heap.size w w' := by
  obtain ⟨⟨⟨a0, a1, a2, a3, a4⟩, b0, b1, b2, b3, b4⟩, d⟩ := h
  exact ⟨⟨⟨cell_later B a0, cell_later B a1, cell_later B a2, cell_later B a3, cell_later B a4⟩, cell_later B b0, cell_later B b1, cell_later B b2, cell_later B b3, cell_later B b4⟩, bstep d B⟩

set_option maxRecDepth 100000 in
set_option maxHeartbeats 4000000 in
theorem within_any (f g : Nat → Nat) (w : World) (hf : ∀ r, f r < 2251799813685248) (hg : ∀ r, g r < 2251799813685248) :
    Calls Try.prog 21 #[setV f, setV g] w fun e w' => e = .returned (.bool (inF f g)) ∧ Below w.heap.size w w' := by
  have sj := fun w => join_any f g w hf hg
  have se := fun w => set_eq (joinF f g 0) (joinF f g 1) (joinF f g 2) (joinF f g 3) (joinF f g 4) (g 0) (g 1) (g 2) (g 3) (g 4) w
  have hd : decide ([(joinF f g 0 : Int), (joinF f g 1 : Int), (joinF f g 2 : Int), (joinF f g 3 : Int), (joinF f g 4 : Int)] = [(g 0 : Int), (g 1 : Int), (g 2 : Int), (g 3 : Int), (g 4 : Int)]) = inF f g := by
    unfold inF; exact decide_eq_decide.2 ((five_iff _ _).trans (five_all fun r => joinF f g r = g r).symm)
  rw [hd] at se
  clear hd hf hg
  generalize joinF f g = j at sj se
  generalize inF f g = q at se ⊢
  unfold setV at sj ⊢
  go_enter Try.func21, Try.ntmps21
  go_upto_region 1 with fail
  have D0 : Hid (Below w.heap.size w ((w.alloc (.cells #[.int .u64 (f 0), .int .u64 (f 1), .int .u64 (f 2), .int .u64 (f 3), .int .u64 (f 4)] 44)).alloc (.cells #[.int .u64 (g 0), .int .u64 (g 1), .int .u64 (g 2), .int .u64 (g 3), .int .u64 (g 4)] 44)).drew) := Lib.hid (((Below.refl _ _).alloc (Nat.le_refl _) _).alloc (by simp) _).drew
  have A0 : Hid (Set5 ((w.alloc (.cells #[.int .u64 (f 0), .int .u64 (f 1), .int .u64 (f 2), .int .u64 (f 3), .int .u64 (f 4)] 44)).alloc (.cells #[.int .u64 (g 0), .int .u64 (g 1), .int .u64 (g 2), .int .u64 (g 3), .int .u64 (g 4)] 44)) w.heap.size f) := Lib.hid ((Below.heap_alloc _ _ _ (by simp)).trans (heap_alloc_new w _))
  have B0 : Hid (Set5 ((w.alloc (.cells #[.int .u64 (f 0), .int .u64 (f 1), .int .u64 (f 2), .int .u64 (f 3), .int .u64 (f 4)] 44)).alloc (.cells #[.int .u64 (g 0), .int .u64 (g 1), .int .u64 (g 2), .int .u64 (g 3), .int .u64 (g 4)] 44)) (w.heap.size + 1) g) := Lib.hid (heap_alloc_at _ _ _ (by simp))
  have hz : ((w.alloc (.cells #[.int .u64 (f 0), .int .u64 (f 1), .int .u64 (f 2), .int .u64 (f 3), .int .u64 (f 4)] 44)).alloc (.cells #[.int .u64 (g 0), .int .u64 (g 1), .int .u64 (g 2), .int .u64 (g 3), .int .u64 (g 4)] 44)).heap.size = w.heap.size + 2 := by simp
  generalize ((w.alloc (.cells #[.int .u64 (f 0), .int .u64 (f 1), .int .u64 (f 2), .int .u64 (f 3), .int .u64 (f 4)] 44)).alloc (.cells #[.int .u64 (g 0), .int .u64 (g 1), .int .u64 (g 2), .int .u64 (g 3), .int .u64 (g 4)] 44)) = W at D0 A0 B0 hz ⊢
  obtain ⟨a0, a1, a2, a3, a4⟩ := A0.out.five
  obtain ⟨b0, b1, b2, b3, b4⟩ := B0.out.five
  clear A0 B0
  have S0 : Hid (((W.cell? ⟨w.heap.size, 0, none⟩ = some (.int .u64 (f 0)) ∧ W.cell? ⟨w.heap.size, 1, none⟩ = some (.int .u64 (f 1)) ∧ W.cell? ⟨w.heap.size, 2, none⟩ = some (.int .u64 (f 2)) ∧ W.cell? ⟨w.heap.size, 3, none⟩ = some (.int .u64 (f 3)) ∧ W.cell? ⟨w.heap.size, 4, none⟩ = some (.int .u64 (f 4))) ∧ W.cell? ⟨w.heap.size + 1, 0, none⟩ = some (.int .u64 (g 0)) ∧ W.cell? ⟨w.heap.size + 1, 1, none⟩ = some (.int .u64 (g 1)) ∧ W.cell? ⟨w.heap.size + 1, 2, none⟩ = some (.int .u64 (g 2)) ∧ W.cell? ⟨w.heap.size + 1, 3, none⟩ = some (.int .u64 (g 3)) ∧ W.cell? ⟨w.heap.size + 1, 4, none⟩ = some (.int .u64 (g 4))) ∧ Below w.heap.size w W.drew) := Lib.hid ⟨⟨⟨a0, a1, a2, a3, a4⟩, b0, b1, b2, b3, b4⟩, D0.out⟩
  clear a0 a1 a2 a3 a4 b0 b1 b2 b3 b4 D0
  go_region_held3 (fun w' => ((w'.cell? ⟨w.heap.size, 0, none⟩ = some (.int .u64 (f 0)) ∧ w'.cell? ⟨w.heap.size, 1, none⟩ = some (.int .u64 (f 1)) ∧ w'.cell? ⟨w.heap.size, 2, none⟩ = some (.int .u64 (f 2)) ∧ w'.cell? ⟨w.heap.size, 3, none⟩ = some (.int .u64 (f 3)) ∧ w'.cell? ⟨w.heap.size, 4, none⟩ = some (.int .u64 (f 4))) ∧ w'.cell? ⟨w.heap.size + 1, 0, none⟩ = some (.int .u64 (g 0)) ∧ w'.cell? ⟨w.heap.size + 1, 1, none⟩ = some (.int .u64 (g 1)) ∧ w'.cell? ⟨w.heap.size + 1, 2, none⟩ = some (.int .u64 (g 2)) ∧ w'.cell? ⟨w.heap.size + 1, 3, none⟩ = some (.int .u64 (g 3)) ∧ w'.cell? ⟨w.heap.size + 1, 4, none⟩ = some (.int .u64 (g 4))) ∧ Below w.heap.size w w') (first | exact S0.out | exact ten_up (by assumption) (by assumption))
    (first | (go_at_call 32; (with_reducible refine (sj _).mono ?_); rintro e w' ⟨rfl, hb⟩))
  rename_i hHeld
  go_wp2_with fail
  go_ret
  exact ⟨rfl, hHeld.2⟩
end Go.Proofs.Ytigaepbhbfpijaa

/- The program's within of two sets; DepsWithin. -/
namespace Go.Proofs.Ytigaepbhbfpijaa
open Go.RowKit
set_option linter.unusedVariables false

theorem win_val {A B : List Pid} (ha : srtB A = true) (hb : srtB B = true) : inF (setF A) (setF B) = inP A B := by
  rw [Bool.eq_iff_iff, inF_iff]; exact within_set A B ha hb

set_option maxRecDepth 100000 in
set_option maxHeartbeats 2000000 in
theorem iwin_any (u v : Value) (A B : List Pid) (w : World) (h : Ids w u A) (g : Ids w v B) :
    Calls Try.prog 8 #[u, v] w fun e w' => e = .returned (.bool (withinB A B)) ∧ Below w.heap.size w w' := by
  have h := Lib.hid h
  have g := Lib.hid g
  have sw := fun w => within_any (setF A) (setF B) w (setF_lt A) (setF_lt B)
  have hv : Hid (srtB A = true → srtB B = true → inF (setF A) (setF B) = inP A B) := Lib.hid win_val
  unfold withinB
  obtain ⟨f, hf⟩ : ∃ f, Hid (setF A = f) := ⟨_, Lib.hid rfl⟩
  obtain ⟨f', hf'⟩ : ∃ f', Hid (setF B = f') := ⟨_, Lib.hid rfl⟩
  obtain ⟨qi, hqi⟩ : ∃ q, Hid (inF f f' = q) := ⟨_, Lib.hid rfl⟩
  rw [hf.out, hf'.out, hqi.out] at sw hv
  obtain ⟨qa, hqa⟩ : ∃ q, Hid (srtB A = q) := ⟨_, Lib.hid rfl⟩
  obtain ⟨qb, hqb⟩ : ∃ q, Hid (srtB B = q) := ⟨_, Lib.hid rfl⟩
  rw [hqa.out, hqb.out] at hv ⊢
  go_enter Try.func8, Try.ntmps8
  go_wp2_with fail
  refine (iset_any u A _ h.out).mono ?_
  rintro e w1 ⟨rfl, hb⟩
  rw [hf.out, hqa.out]
  have D1 := Lib.hid (hb.alloc hb.size (.cells #[.int .u64 (f 0), .int .u64 (f 1), .int .u64 (f 2), .int .u64 (f 3), .int .u64 (f 4)] 44))
  have A1 : Hid (Set5 (w1.alloc (.cells #[.int .u64 (f 0), .int .u64 (f 1), .int .u64 (f 2), .int .u64 (f 3), .int .u64 (f 4)] 44)) w1.heap.size f) := Lib.hid (heap_alloc_new w1 _)
  have hb1 := hb.size
  have g1 := Lib.hid (g.out.up D1.out (Nat.le_refl _))
  clear hb h g
  unfold setV at sw ⊢
  go_wp2_with fail
  refine (iset_any v B _ g1.out).mono ?_
  rintro e w2 ⟨rfl, hb⟩
  rw [hf'.out, hqb.out]
  unfold setV
  have hs1 : w1.heap.size < w2.heap.size := Nat.lt_of_lt_of_le (by simp) hb.size
  have A2 := A1.out.up hb (by simp)
  have A3 := Lib.hid (A2.up ((Below.refl _ _).alloc (Nat.le_refl _) (.cells #[.int .u64 (f' 0), .int .u64 (f' 1), .int .u64 (f' 2), .int .u64 (f' 3), .int .u64 (f' 4)] 44)) hs1)
  have D2 := bstep D1.out hb
  have D2 := Lib.hid (D2.alloc D2.size (.cells #[.int .u64 (f' 0), .int .u64 (f' 1), .int .u64 (f' 2), .int .u64 (f' 3), .int .u64 (f' 4)] 44))
  obtain ⟨x0, x1, x2, x3, x4⟩ := A2.five
  clear hb A1 A2 A3 D1 g1
  cases qa
  · go_wp2_with fail
    go_ret
    exact ⟨rfl, D2.out⟩
  · cases qb
    · go_wp2_with fail
      go_ret
      exact ⟨rfl, D2.out⟩
    · have hv2 := Lib.hid (hv.out rfl rfl)
      clear hv
      go_wp2_with fail
      refine (sw _).mono ?_
      rintro e w3 ⟨rfl, hb⟩
      have D3 := Lib.hid (bstep D2.out hb)
      clear hb D2 sw x0 x1 x2 x3 x4
      go_wp2_with fail
      go_ret
      exact ⟨by rw [hv2.out]; rfl, D3.out⟩
end Go.Proofs.Ytigaepbhbfpijaa

/- The model's DepsWithin. -/
namespace Go.Proofs.Ytigaepbhbfpijaa
open Go.RowKit
set_option linter.unusedVariables false

theorem in_miss {A B : List Pid} {k : Nat} (hk : k < A.length) (h : hasP B (A.getD k nop) = false) : inP A B = false := by
  cases e : inP A B with
  | false => rfl
  | true =>
    have := inP_iff.1 e (A.getD k nop) (by rw [List.getD_eq_getElem?_getD, List.getElem?_eq_getElem hk]; exact List.getElem_mem _)
    unfold hasP at h
    rw [decide_eq_false_iff_not] at h
    exact absurd this h
theorem in_all {A B : List Pid} (h : ∀ j, j < A.length → hasP B (A.getD j nop) = true) : inP A B = true := by
  rw [inP_iff]
  intro x hx
  obtain ⟨i, hi, e⟩ := List.getElem_of_mem hx
  have := h i hi
  rw [List.getD_eq_getElem?_getD, List.getElem?_eq_getElem hi, Option.getD_some, e] at this
  simpa [hasP] using this

set_option maxRecDepth 100000 in
set_option maxHeartbeats 4000000 in
theorem swin_any (u v : Value) (A B : List Pid) (w : World) (h : Ids w u A) (g : Ids w v B) :
    Calls Try.prog 9 #[u, v] w fun e w' => e = .returned (.bool (withinB A B)) ∧ Below w.heap.size w w' := by
  have h := Lib.hid h
  have g := Lib.hid g
  unfold withinB
  obtain ⟨qa, hqa⟩ : ∃ q, Hid (srtB A = q) := ⟨_, Lib.hid rfl⟩
  obtain ⟨qb, hqb⟩ : ∃ q, Hid (srtB B = q) := ⟨_, Lib.hid rfl⟩
  obtain ⟨qi, hqi⟩ : ∃ q, Hid (inP A B = q) := ⟨_, Lib.hid rfl⟩
  have s1 := fun w h => sval_any u A w h
  rw [hqa.out] at s1
  rw [hqa.out, hqb.out, hqi.out]
  cases qa
  · go_enter Try.func9, Try.ntmps9
    go_wp2_with fail
    refine (s1 _ h.out).mono ?_
    rintro e w1 ⟨rfl, hb⟩
    have D1 := Lib.hid hb
    clear hb h g
    go_wp2_with fail
    go_ret
    exact ⟨rfl, D1.out⟩
  · have s2 := fun w h => sval_any v B w h
    rw [hqb.out] at s2
    cases qb
    · go_enter Try.func9, Try.ntmps9
      go_wp2_with fail
      refine (s1 _ h.out).mono ?_
      rintro e w1 ⟨rfl, hb⟩
      have g1 := Lib.hid (g.out.up hb (Nat.le_refl _))
      have D1 := Lib.hid hb
      clear hb h g
      go_wp2_with fail
      refine (s2 _ g1.out).mono ?_
      rintro e w2 ⟨rfl, hb⟩
      have D2 := Lib.hid (bstep D1.out hb)
      clear hb D1 g1
      go_wp2_with fail
      go_ret
      exact ⟨rfl, D2.out⟩
    · have hl12 : A.length ≤ 12 := (srt_of hqa.out).1
      obtain ⟨a, cap, hu, h1, h2, h3⟩ := h.out
      obtain ⟨n, hn⟩ : ∃ n, Hid (A.length = n) := ⟨_, Lib.hid rfl⟩
      rw [hn.out] at hl12 hu h1
      subst hu
      have h3 := Lib.hid h3
      clear h2
      go_enter Try.func9, Try.ntmps9
      go_wp2_with fail
      refine (s1 _ h.out).mono ?_
      rintro e w1 ⟨rfl, hb⟩
      have g1 := Lib.hid (g.out.up hb (Nat.le_refl _))
      have h1' := Lib.hid (h.out.up hb (Nat.le_refl _))
      have D1 := Lib.hid hb
      clear hb h g
      go_wp2_with fail
      refine (s2 _ g1.out).mono ?_
      rintro e w2 ⟨rfl, hb⟩
      have g2 := Lib.hid (g1.out.up hb (Nat.le_refl _))
      have D2 := Lib.hid (bstep D1.out hb)
      clear hb D1 g1 h1'
      go_wp2_with fail
      go_loopw [5] (fun i wr => ∃ k : Nat, k ≤ n ∧ i = .int .i64 k ∧ Hid (∀ j, j < k → hasP B (A.getD j nop) = true) ∧ Hid (Below w2.heap.size w2 wr)) (fun i _ => n - (intOf i).toNat)
      case atStart => exact ⟨0, Nat.zero_le _, rfl, Lib.hid fun j hj => absurd hj (Nat.not_lt_zero _), Lib.hid (Below.refl _ _)⟩
      case round =>
        obtain ⟨k, hk, rfl, hin, hnx⟩ := hrel
        by_cases hlt : k < n
        · rcases h3.out with h3' | ⟨b, off, hab, hb1, hb2⟩
          · have := hn.out; omega
          · subst hab
            obtain ⟨h0, h1⟩ := hb2 k (by rw [hn.out]; exact hlt)
            have D3 := bstep D2.out hnx.out
            have q0 := (D3.cell (p := ⟨b, off + k * 2, none⟩) hb1).trans h0
            have q1 := (D3.cell (p := ⟨b, off + k * 2 + 1, none⟩) hb1).trans h1
            have D3 := Lib.hid D3
            clear h0 h1 hb2 h3
            obtain ⟨c, hc⟩ : ∃ c, Hid (A.getD k nop = c) := ⟨_, Lib.hid rfl⟩
            rw [hc.out] at q0 q1
            obtain ⟨p, r⟩ := c
            dsimp only at q0 q1
            have sh := shas_any v B p r _ (g2.out.up hnx.out (Nat.le_refl _))
            obtain ⟨q, hq⟩ : ∃ q, Hid (hasP B (p, r) = q) := ⟨_, Lib.hid rfl⟩
            rw [hq.out] at sh
            have hq' : Hid (hasP B (A.getD k nop) = q) := Lib.hid (by rw [hc.out]; exact hq.out)
            cases q
            · have hR := in_miss (by rw [hn.out]; exact hlt) hq'.out
              rw [hqi.out] at hR
              subst hR
              clear g2
              go_wp2_with fail
              refine sh.mono ?_
              rintro e w3 ⟨rfl, hb⟩
              have D4 := Lib.hid (bstep D3.out hb)
              clear hb q0 q1 sh
              go_wp2_with fail
              go_ret
              exact ⟨rfl, D4.out⟩
            · have hin' := Lib.hid (up_to hin.out hq'.out)
              clear g2
              go_wp2_with fail
              refine sh.mono ?_
              rintro e w3 ⟨rfl, hb⟩
              have D4 := Lib.hid (bstep hnx.out hb)
              clear hb q0 q1 sh
              go_wp2_with fail
              go_roundw
              case rel => exact ⟨k + 1, by omega, by go_num, hin', D4⟩
              case measure => simp [intOf]; omega
        · obtain rfl : k = n := by omega
          have hR := in_all (fun j hj => hin.out j (by rw [← hn.out]; exact hj))
          rw [hqi.out] at hR
          subst hR
          have D3 := Lib.hid (bstep D2.out hnx.out)
          clear g2 h3
          go_wp2_with fail
          go_ret
          exact ⟨rfl, D3.out⟩
end Go.Proofs.Ytigaepbhbfpijaa

/- The walk of FnExactDepsWithin. -/
namespace Go.Proofs.Ytigaepbhbfpijaa
open Go.RowKit
set_option linter.unusedVariables false

set_option maxRecDepth 100000 in
set_option maxHeartbeats 4000000 in
theorem exDepsWithin_any (a : Option Addr) (len cap : Nat) (a' : Option Addr) (len' cap' : Nat) (w : World) (hlm : len ≤ maxLen) (h : 1048576 < len ∨ ∃ C, Ids w (.slice a len cap) C) (hlm' : len' ≤ maxLen) (h' : 1048576 < len' ∨ ∃ C, Ids w (.slice a' len' cap') C) :
    Calls Try.prog 6 #[.slice a len cap, .slice a' len' cap'] w fun e w' => e = .returned (.bool true) ∧ Below w.heap.size w w' := by
  have hm : len ≤ 9223372036854775807 := by simpa [maxLen] using hlm
  have hm' : len' ≤ 9223372036854775807 := by simpa [maxLen] using hlm'
  clear hlm hlm'
  have sz := szP_any a len cap 1048576
  by_cases hl : 1048576 < len
  · rw [if_pos hl] at sz
    clear h h'
    go_enter Try.func6, Try.ntmps6
    go_wp2_with fail
    refine (sz _ (by trivial) hm).mono ?_
    rintro e w1 ⟨rfl, hb⟩
    have D1 := Lib.hid hb
    clear hb sz
    go_wp2_with fail
    go_ret
    exact ⟨rfl, D1.out⟩
  · rw [if_neg hl] at sz
    obtain ⟨A, hU⟩ := h.resolve_left hl
    have sz2 := fun w => szP_gen a' len' cap' (1048576 - (len : Int)) w (by omega) (by omega) hm'
    by_cases hl2 : (1048576 - (len : Int)) < len'
    · simp only [if_pos hl2] at sz2
      clear h h' hU
      go_enter Try.func6, Try.ntmps6
      go_wp2_with fail
      refine (sz _ (by trivial) hm).mono ?_
      rintro e w1 ⟨rfl, hb⟩
      have D1 := Lib.hid hb
      clear hb sz
      go_wp2_with fail
      refine (sz2 _).mono ?_
      rintro e w2 ⟨rfl, hb⟩
      have D2 := Lib.hid (bstep D1.out hb)
      clear hb sz2 D1
      go_wp2_with fail
      go_ret
      exact ⟨rfl, D2.out⟩
    · simp only [if_neg hl2] at sz2
      obtain ⟨B, hV⟩ := h'.resolve_left (by omega)
      have hU := Lib.hid hU
      have hV := Lib.hid hV
      have sv := fun u v w h g => swin_any u v A B w h g
      have iv := fun u v w h g => iwin_any u v A B w h g
      generalize withinB A B = q at sv iv
      clear h h'
      go_enter Try.func6, Try.ntmps6
      go_wp2_with fail
      refine (sz _ (by trivial) hm).mono ?_
      rintro e w1 ⟨rfl, hb⟩
      have D1 := Lib.hid hb
      clear hb sz
      go_wp2_with fail
      refine (sz2 _).mono ?_
      rintro e w2 ⟨rfl, hb⟩
      have D2 := Lib.hid (bstep D1.out hb)
      clear hb sz2 D1
      go_wp2_with fail
      refine (toP_any _ A _ (hU.out.up D2.out (Nat.le_refl _))).mono ?_
      rintro e w3 ⟨b3, u3, hb3, rfl, O3, hb⟩
      have D3 := Lib.hid (bstep D2.out hb)
      have O3 := Lib.hid O3
      clear hb D2
      go_wp2_with fail
      refine (toP_any _ B _ (hV.out.up D3.out (Nat.le_refl _))).mono ?_
      rintro e w4 ⟨b4, u4, hb4, rfl, O4, hb⟩
      have D4 := Lib.hid (bstep D3.out hb)
      have O3 := Lib.hid (O3.out.up hb O3.out.lt)
      have O4 := Lib.hid O4
      clear hb D3
      go_wp2_with fail
      refine (sv _ _ _ O3.out.read O4.out.read).mono ?_
      rintro e w5 ⟨rfl, hb⟩
      have D5 := Lib.hid (bstep D4.out hb)
      clear hb D4 O3 O4
      go_wp2_with fail
      refine (toP_any _ A _ (hU.out.up D5.out (Nat.le_refl _))).mono ?_
      rintro e w6 ⟨b6, u6, hb6, rfl, O6, hb⟩
      have D6 := Lib.hid (bstep D5.out hb)
      have O6 := Lib.hid O6
      clear hb D5
      go_wp2_with fail
      refine (toP_any _ B _ (hV.out.up D6.out (Nat.le_refl _))).mono ?_
      rintro e w7 ⟨b7, u7, hb7, rfl, O7, hb⟩
      have D7 := Lib.hid (bstep D6.out hb)
      have O6a := Lib.hid (O6.out.up hb O6.out.lt)
      have O7 := Lib.hid O7
      clear hb D6 O6
      go_wp2_with fail
      refine (iv _ _ _ O6a.out.read O7.out.read).mono ?_
      rintro e w8 ⟨rfl, hb⟩
      have D8 := Lib.hid (bstep D7.out hb)
      have O6b := Lib.hid (O6a.out.up hb O6a.out.lt)
      have O7b := Lib.hid (O7.out.up hb O7.out.lt)
      clear hb D7 O6a O7
      go_wp2_with fail
      refine (toP_any _ A _ (hU.out.up D8.out (Nat.le_refl _))).mono ?_
      rintro e w9 ⟨b9, u9, hb9, rfl, O9, hb⟩
      have D9 := Lib.hid (bstep D8.out hb)
      have O6c := Lib.hid (O6b.out.up hb O6b.out.lt)
      have O7c := Lib.hid (O7b.out.up hb O7b.out.lt)
      have O9 := Lib.hid O9
      clear hb D8 O6b O7b
      go_wp2_with fail
      refine (eqP_any _ _ A _ O6c.out.read O9.out.read).mono ?_
      rintro e w10 ⟨rfl, hb⟩
      have D10 := Lib.hid (bstep D9.out hb)
      have O7d := Lib.hid (O7c.out.up hb O7c.out.lt)
      clear hb D9 O6c O7c O9
      go_wp2_with fail
      refine (toP_any _ B _ (hV.out.up D10.out (Nat.le_refl _))).mono ?_
      rintro e w11 ⟨b11, u11, hb11, rfl, O11, hb⟩
      have D11 := Lib.hid (bstep D10.out hb)
      have O7e := Lib.hid (O7d.out.up hb O7d.out.lt)
      have O11 := Lib.hid O11
      clear hb D10 O7d
      go_wp2_with fail
      refine (eqP_any _ _ B _ O7e.out.read O11.out.read).mono ?_
      rintro e w12 ⟨rfl, hb⟩
      have D12 := Lib.hid (bstep D11.out hb)
      clear hb D11 O7e O11
      go_wp2_with fail
      go_ret
      exact ⟨rfl, D12.out⟩
end Go.Proofs.Ytigaepbhbfpijaa

/- DrawDepsWithin. -/
namespace Go.Proofs.Ytigaepbhbfpijaa
open Go.RowKit
set_option linter.unusedVariables false

/-- What a draw of two lists leaves. -/
def DtPost (w : World) (e : Ending) (w' : World) : Prop := ∃ u v A B, e = .returned (.tuple #[u, v]) ∧ Ids w' u A ∧ Ids w' v B ∧ A.length ≤ 13 ∧ B.length ≤ 13 ∧ Below w.heap.size w w'

theorem dep_next {w w1 w2 : World} {r m : Nat} {v v' : Value} {O : List Pid} {x y : Int} {o : Obj} (hrl : r < w.heap.size) (hR : Row w1 w.heap.size v O) (hown : w2.ownsRow w.heap.size 41 2 v' (O.length + 1) (flatP O ++ [.int .i64 x, .int .i64 y]))
    (hg : (w1.alloc o).grownBy w2 (Value.ownBlock v)) (hn : v' ≠ .slice none 0 0) (hrd : Rd w1 r m) (hk : Keep w.heap.size r w w1) : Row w2 w.heap.size v' (O ++ [(x, y)]) ∧ Rd w2 r m ∧ Keep w.heap.size r w w2 := ids_next hrl hR hown hg hn hrd hk

set_option maxRecDepth 100000 in
set_option maxHeartbeats 4000000 in
theorem dwin_any (a : Option Addr) (len cap : Nat) (w : World) (hc : CodeIn w a len cap) (hcap : cap ≤ maxLen) :
    Calls Try.prog 7 #[.slice a len cap] w (DtPost w) := by
  obtain ⟨i0, hi, hz0, hz1, hz2⟩ := info_parts infoP
  have hc := Lib.hid hc
  have hcap := Lib.hid hcap
  go_enter Try.func7, Try.ntmps7
  go_wp2_with fail
  refine (open_any a len cap _ hc.out hcap.out).mono ?_
  rintro e w1 ⟨r, rfl, hr0, hr', hb'⟩
  have s1 := hb'.size
  have D1 : Hid (Below w.heap.size w w1) := Lib.hid hb'
  have hr1 := Lib.hid hr'
  have hrl1 := hr'.lt
  clear hr' hb' hc hcap
  go_wp2_with fail
  refine (ddep_any r 0 _ hr1.out (by omega)).mono ?_
  rintro e w2 ⟨bb, u, C, hbb, rfl, hO, hCl, hr2, hk2⟩
  have s2 := hk2.size
  have D2 : Hid (Below w.heap.size w w2) := Lib.hid (D1.out.trans ((hk2.mono s1).below hr0))
  have hO := Lib.hid hO
  have hr2 := Lib.hid hr2
  have hrl2 : r < w2.heap.size := by omega
  obtain ⟨cc, hu, hcc⟩ := hO.out.shape
  have hbl := hO.out.lt
  obtain ⟨n, hn⟩ : ∃ n, Hid (C.length = n) := ⟨_, Lib.hid rfl⟩
  rw [hn.out] at hu hcc hCl
  subst hu
  have R0 := Lib.hid (row_new w2 w2.heap.size (Nat.le_refl _))
  have hr3 := Lib.hid (hr2.out.alloc (.cells #[] 41))
  have K3 := Lib.hid ((Keep.refl w2.heap.size r w2).alloc (Nat.le_refl _) (.cells #[] 41))
  clear hk2 D1 hr1 hr2
  go_wp2_with fail
  go_loopw [6, 7] (fun v i wr => ∃ k : Nat, k ≤ n ∧ i = .int .i64 k ∧ ∃ O : List Pid, O.length ≤ k ∧ Hid (Row wr w2.heap.size v O) ∧ Hid (Rd wr r (40 + k)) ∧ Hid (Keep w2.heap.size r w2 wr)) (fun _ i _ => n - (intOf i).toNat)
  case atStart => exact ⟨0, Nat.zero_le _, rfl, [], Nat.le_refl _, R0, Lib.hid (by simpa using hr3.out), K3⟩
  case round =>
    obtain ⟨k, hk, rfl, O, hL, hR, hr, hK⟩ := hrel
    have hsz := hK.out.size
    clear R0 hr3 K3
    by_cases hlt : k < n
    · go_wp2_with fail
      refine (pick_any 2 r (40 + k) _ hr.out (by omega)).mono ?_
      rintro e w3 ⟨x, rfl, x0, x1, hr3, hk3⟩
      have x2 := x1 (by omega)
      have s3 := hk3.size
      have K3 := Lib.hid (hK.out.trans (hk3.mono hsz))
      have R3 := Lib.hid (hR.out.keep hk3 hrl2)
      have hr3 := Lib.hid hr3
      obtain ⟨q0, q1⟩ := (hO.out.stay K3.out (by omega)).cell k (by rw [hn.out]; exact hlt)
      generalize C.getD k nop = c at q0 q1
      obtain ⟨p, t⟩ := c
      dsimp only at q0 q1
      clear hk3 hR hK hr x1
      rcases (show x = 0 ∨ x = 1 by omega) with rfl | rfl
      · go_wp2_with (at_builtin; refine wpList_append_own _ rfl _ _ 23 rfl w2.heap.size 41 i0 (.agg #[.int .i64 0, .int .i64 0]) 2 16 Try.underlying23 hi hz0 hz1 hz2 rfl (by decide) _ _ _ rfl (R3.out.1.alloc _) ⟨w3.heap.size, 0, none⟩ 1 1 [.int .i64 p, .int .i64 t] rfl rfl ?c1 ?c2 ?c3 ?c4 ?c5 ?_)
        case c1 => exact two_cells _ _ _ _ _ (by simp)
        case c2 => intro u hu; simp at hu; rcases hu with rfl | rfl <;> rfl
        case c3 => unfold maxLen; omega
        case c4 => omega
        case c5 => simp; omega
        intro v' w4 hown' hgrow hnil
        have X := ids_next hrl2 R3.out hown' hgrow (fun e => hnil e) hr3.out K3.out
        have hR' := Lib.hid X.1
        have hr' := Lib.hid X.2.1
        have hK' := Lib.hid X.2.2
        clear X hown' hgrow hnil R3 hr3 K3 q0 q1
        go_wp2_with fail
        go_roundw
        case rel => exact ⟨k + 1, by omega, by go_num, _, by simp; omega, hR', hr', hK'⟩
        case measure => simp [intOf]; omega
      · clear q0 q1
        go_wp2_with fail
        go_roundw
        case rel => exact ⟨k + 1, by omega, by go_num, O, by omega, R3, hr3, K3⟩
        case measure => simp [intOf]; omega
    · obtain rfl : k = n := by omega
      go_wp2_with fail
      refine (pick_any 3 r (40 + k) _ hr.out (by omega)).mono ?_
      rintro e w3 ⟨x, rfl, x0, x1, hr3, hk3⟩
      have s3 := hk3.size
      have K3 := Lib.hid (hK.out.trans (hk3.mono hsz))
      have R3 := Lib.hid (hR.out.keep hk3 hrl2)
      have O3 := Lib.hid (hO.out.stay K3.out (by omega))
      have hr3 := Lib.hid hr3
      clear hk3 hR hK hr x1 hO
      by_cases e0 : x = 0
      · subst e0
        clear R3
        go_wp2_with fail
        refine (ddep_any r (40 + k + 1) _ hr3.out (by omega)).mono ?_
        rintro e w4 ⟨bb', u', C', hbb', rfl, hO', hCl', hr4, hk4⟩
        have D4 := Lib.hid (D2.out.trans (((K3.out.trans (hk4.mono (by omega))).mono D2.out.size).below hr0))
        have O4 := Lib.hid (O3.out.stay hk4 (by omega)).read
        have hO' := Lib.hid hO'.read
        clear hk4 K3 hr4 hr3 O3
        go_wp2_with fail
        go_ret2
        exact ⟨_, _, C', C, rfl, hO'.out, O4.out, hCl', by rw [hn.out]; exact hCl, D4.out⟩
      · have e0' : (x == 0) = false := by simpa using e0
        have D4 := Lib.hid (D2.out.trans ((K3.out.mono D2.out.size).below hr0))
        obtain ⟨o, ho, hown⟩ := R3.out.own (by omega)
        have hI := Lib.hid hown.read
        have O4 := Lib.hid O3.out.read
        clear R3 hown O3 K3 e0 hr3
        go_wp2_with fail
        go_ret2
        exact ⟨_, _, O, C, rfl, hI.out, O4.out, by omega, by rw [hn.out]; exact hCl, D4.out⟩
end Go.Proofs.Ytigaepbhbfpijaa

/- The laws' sameIds, of any two lists. -/
namespace Go.Proofs.Ytigaepbhbfpijaa
open Go.RowKit
set_option linter.unusedVariables false

theorem idl_ne {A B : List Pid} {k : Nat} (hk : k < A.length) (hl : A.length = B.length) (h : A.getD k nop ≠ B.getD k nop) : decide (A = B) = false := decide_eq_false fun e => h (by rw [e])
theorem idl_eq {A B : List Pid} (hl : A.length = B.length) (h : ∀ j, j < A.length → A.getD j nop = B.getD j nop) : decide (A = B) = true := by
  apply decide_eq_true
  apply List.ext_getElem hl
  intro i h1 h2
  have := h i h1
  rw [List.getD_eq_getElem?_getD, List.getD_eq_getElem?_getD, List.getElem?_eq_getElem h1, List.getElem?_eq_getElem h2] at this
  simpa using this
theorem idl_len {A B : List Pid} (h : A.length ≠ B.length) : decide (A = B) = false := decide_eq_false fun e => h (by rw [e])

set_option maxRecDepth 100000 in
set_option maxHeartbeats 4000000 in
theorem sameg_at (a b oa ob ca cb : Nat) (A B : List Pid) (w : World) (hl : A.length = B.length) (hm : A.length ≤ 2000000) (ha : a < w.heap.size) (hb : b < w.heap.size)
    (hA : ∀ i, i < A.length → w.cell? ⟨a, oa + i * 2, none⟩ = some (.int .i64 (A.getD i nop).1) ∧ w.cell? ⟨a, oa + i * 2 + 1, none⟩ = some (.int .i64 (A.getD i nop).2))
    (hB : ∀ i, i < B.length → w.cell? ⟨b, ob + i * 2, none⟩ = some (.int .i64 (B.getD i nop).1) ∧ w.cell? ⟨b, ob + i * 2 + 1, none⟩ = some (.int .i64 (B.getD i nop).2)) :
    Calls Try.prog 11 #[.slice (some ⟨a, oa, none⟩) A.length ca, .slice (some ⟨b, ob, none⟩) B.length cb] w fun e w' => e = .returned (.bool (decide (A = B))) ∧ Below w.heap.size w w' := by
  have hA := Lib.hid hA
  have hB := Lib.hid hB
  obtain ⟨n, hn⟩ : ∃ n, Hid (A.length = n) := ⟨_, Lib.hid rfl⟩
  have hnB : Hid (B.length = n) := Lib.hid (hl.symm.trans hn.out)
  obtain ⟨q, hq⟩ : ∃ q, Hid (decide (A = B) = q) := ⟨_, Lib.hid rfl⟩
  have hl := Lib.hid hl
  rw [hn.out] at hm ⊢
  rw [hnB.out, hq.out]
  go_enter Try.func11, Try.ntmps11
  go_wp2_with fail
  go_loopw [5] (fun i wr => ∃ k : Nat, k ≤ n ∧ i = .int .i64 k ∧ Hid (∀ j, j < k → A.getD j nop = B.getD j nop) ∧ Below w.heap.size w wr) (fun i _ => n - (intOf i).toNat)
  case atStart => exact ⟨0, Nat.zero_le _, rfl, Lib.hid fun j hj => absurd hj (Nat.not_lt_zero _), Below.refl _ _⟩
  case round =>
    obtain ⟨k, hk, rfl, hs, hnx⟩ := hrel
    by_cases hlt : k < n
    · obtain ⟨h0, h1⟩ := hA.out k (by rw [hn.out]; exact hlt)
      have q0 := (hnx.cell (p := ⟨a, oa + k * 2, none⟩) ha).trans h0
      have q1 := (hnx.cell (p := ⟨a, oa + k * 2 + 1, none⟩) ha).trans h1
      clear h0 h1
      obtain ⟨h0, h1⟩ := hB.out k (by rw [hnB.out]; exact hlt)
      have r0 := (hnx.cell (p := ⟨b, ob + k * 2, none⟩) hb).trans h0
      have r1 := (hnx.cell (p := ⟨b, ob + k * 2 + 1, none⟩) hb).trans h1
      clear h0 h1 hA hB
      obtain ⟨c, hc⟩ : ∃ c, Hid (A.getD k nop = c) := ⟨_, Lib.hid rfl⟩
      obtain ⟨d, hd⟩ : ∃ d, Hid (B.getD k nop = d) := ⟨_, Lib.hid rfl⟩
      rw [hc.out] at q0 q1
      rw [hd.out] at r0 r1
      obtain ⟨x, y⟩ := c
      obtain ⟨x', y'⟩ := d
      dsimp only at q0 q1 r0 r1
      have hnx := Lib.hid hnx
      have hbad : (x, y) ≠ (x', y') → Hid (q = false) := fun e => Lib.hid (by rw [← hq.out]; exact idl_ne (k := k) (by rw [hn.out]; exact hlt) hl.out (by rw [hc.out, hd.out]; exact e))
      by_cases e1 : x = x'
      · subst e1
        by_cases e2 : y = y'
        · subst e2
          have R := Lib.hid (up_to hs.out (show A.getD k nop = B.getD k nop by rw [hc.out, hd.out]))
          clear hbad
          go_wp2_with fail
          go_quiet (fail)
          go_wp2_with fail
          go_roundw
          case rel => exact ⟨k + 1, by omega, by go_num, R, bdrewN hnx.out _⟩
          case measure => simp [intOf]; omega
        · have hR := hbad (fun e => e2 (congrArg Prod.snd e))
          clear hbad
          have e3 : (y == y') = false := by simpa using e2
          go_wp2_with fail
          go_quiet (fail)
          go_wp2_with fail
          go_ret
          exact ⟨by rw [hR.out]; rfl, bdrewN hnx.out _⟩
      · have hR := hbad (fun e => e1 (congrArg Prod.fst e))
        clear hbad
        have e3 : (x == x') = false := by simpa using e1
        go_wp2_with fail
        go_quiet (fail)
        go_wp2_with fail
        go_ret
        exact ⟨by rw [hR.out]; rfl, bdrewN hnx.out _⟩
    · obtain rfl : k = n := by omega
      have hR : Hid (q = true) := Lib.hid (by rw [← hq.out]; exact idl_eq hl.out (fun j hj => hs.out j (by rw [← hn.out]; exact hj)))
      have hnx := Lib.hid hnx
      clear hA hB
      go_wp2_with fail
      go_ret
      exact ⟨by rw [hR.out]; rfl, hnx.out⟩

theorem sameg_nil (a b : Option Addr) (ca cb : Nat) (w : World) :
    Calls Try.prog 11 #[.slice a 0 ca, .slice b 0 cb] w fun e w' => e = .returned (.bool true) ∧ Below w.heap.size w w' := by
  go_enter Try.func11, Try.ntmps11
  go_wp2_with fail
  refine wp_loop_rounds 1 ?_
  rw [rounds_succ]
  go_wp2_with fail
  go_ret
  exact ⟨rfl, Below.refl _ _⟩

theorem sameg_len (a b : Option Addr) (n m ca cb : Nat) (w : World) (hn : n ≤ 2000000) (hm : m ≤ 2000000) (h : n ≠ m) :
    Calls Try.prog 11 #[.slice a n ca, .slice b m cb] w fun e w' => e = .returned (.bool false) ∧ Below w.heap.size w w' := by
  have h' : ((n : Int) == (m : Int)) = false := by simp; omega
  go_enter Try.func11, Try.ntmps11
  go_wp2_with fail
  go_ret
  exact ⟨rfl, Below.refl _ _⟩

theorem sameg_any (u x : Value) (A B : List Pid) (w : World) (h : Ids w u A) (g : Ids w x B) :
    Calls Try.prog 11 #[u, x] w fun e w' => e = .returned (.bool (decide (A = B))) ∧ Below w.heap.size w w' := by
  obtain ⟨a, cap, rfl, h1, h2, h3⟩ := h
  obtain ⟨b, cap', rfl, g1, g2, g3⟩ := g
  by_cases hl : A.length = B.length
  · rcases h3 with h3 | ⟨a, off, rfl, h4, h5⟩
    · obtain rfl : A = [] := List.length_eq_zero_iff.1 h3
      obtain rfl : B = [] := List.length_eq_zero_iff.1 hl.symm
      exact sameg_nil a b cap cap' w
    · rcases g3 with g3 | ⟨b, off', rfl, g4, g5⟩
      · obtain rfl : B = [] := List.length_eq_zero_iff.1 g3
        obtain rfl : A = [] := List.length_eq_zero_iff.1 hl
        exact sameg_nil _ b cap cap' w
      · exact sameg_at a b off off' cap cap' A B w hl h2 h4 g4 h5 g5
  · rw [idl_len hl]
    exact sameg_len _ _ _ _ _ _ w h2 g2 hl
end Go.Proofs.Ytigaepbhbfpijaa

/- The walk of FnWithinBoth. -/
namespace Go.Proofs.Ytigaepbhbfpijaa
open Go.RowKit
set_option linter.unusedVariables false

theorem in_both {A B : List Pid} (ha : srtB A = true) (hb : srtB B = true) : (inP A B && inP B A) = decide (A = B) := by
  rw [Bool.eq_iff_iff, Bool.and_eq_true, inP_iff, inP_iff, decide_eq_true_iff]
  constructor
  · rintro ⟨h1, h2⟩; exact asc_ext (srt_of ha).2.2 (srt_of hb).2.2 (fun x => ⟨h1 x, h2 x⟩)
  · rintro rfl; exact ⟨fun x h => h, fun x h => h⟩

set_option maxRecDepth 100000 in
set_option maxHeartbeats 4000000 in
theorem fnWithinBoth_walk (a : Option Addr) (len cap : Nat) (w : World) (hc : CodeIn w a len cap) (hcap : cap ≤ maxLen) :
    Calls Try.prog 3 #[.slice a len cap] w fun e w' => e = .returned (.bool true) ∧ Below w.heap.size w w' := by
  have hm : cap ≤ 9223372036854775807 := by simpa [maxLen] using hcap
  have hlc := hc.1
  by_cases hl : 1048576 < len
  · clear hcap hc
    go_enter Try.func3, Try.ntmps3
    go_wp2_with fail
    go_ret
    exact ⟨rfl, Below.refl _ _⟩
  · have hc1 := Lib.hid hc
    have hcap1 := Lib.hid hcap
    clear hc hcap
    go_enter Try.func3, Try.ntmps3
    go_wp2_with fail
    refine (dwin_any a len cap w hc1.out hcap1.out).mono ?_
    rintro e w1 ⟨u, v, A, B, rfl, hA, hB, hAl, hBl, D1'⟩
    have D1 := Lib.hid D1'
    have hA := Lib.hid hA
    have hB := Lib.hid hB
    clear hc1 hcap1 D1'
    go_wp2_with fail
    refine (iwin_any u v A B _ hA.out hB.out).mono ?_
    rintro e w2 ⟨rfl, hb⟩
    have D2 := Lib.hid (bstep D1.out hb)
    have hA2 := Lib.hid (hA.out.up hb (Nat.le_refl _))
    have hB2 := Lib.hid (hB.out.up hb (Nat.le_refl _))
    clear hb hA hB D1
    go_wp2_with fail
    refine (swin_any u v A B _ hA2.out hB2.out).mono ?_
    rintro e w3 ⟨rfl, hb⟩
    have D3 := Lib.hid (bstep D2.out hb)
    have hA3 := Lib.hid (hA2.out.up hb (Nat.le_refl _))
    have hB3 := Lib.hid (hB2.out.up hb (Nat.le_refl _))
    clear hb hA2 hB2 D2
    have hboth : Hid (srtB A = true → srtB B = true → (inP A B && inP B A) = decide (A = B)) := Lib.hid in_both
    have s1 := fun w h => sval_any u A w h
    have s2 := fun w h => sval_any v B w h
    have s3 := fun w h g => iwin_any v u B A w h g
    have s4 := fun w h g => sameg_any u v A B w h g
    unfold withinB at s3 ⊢
    generalize srtB A = qa at s1 s3 hboth ⊢
    generalize srtB B = qb at s2 s3 hboth ⊢
    generalize inP A B = qi at hboth ⊢
    generalize inP B A = qj at s3 hboth
    generalize decide (A = B) = qe at s4 hboth
    cases qa
    · simp only [Bool.false_and]
      go_wp2_with fail
      refine (s1 _ hA3.out).mono ?_
      rintro e w4 ⟨rfl, hb⟩
      have D4 := Lib.hid (bstep D3.out hb)
      clear hb hA3 hB3 D3
      go_wp2_with fail
      go_ret
      exact ⟨rfl, D4.out⟩
    · cases qb
      · simp only [Bool.true_and, Bool.false_and]
        go_wp2_with fail
        refine (s1 _ hA3.out).mono ?_
        rintro e w4 ⟨rfl, hb⟩
        have D4 := Lib.hid (bstep D3.out hb)
        have hB4 := Lib.hid (hB3.out.up hb (Nat.le_refl _))
        clear hb hA3 hB3 D3
        go_wp2_with fail
        refine (s2 _ hB4.out).mono ?_
        rintro e w5 ⟨rfl, hb⟩
        have D5 := Lib.hid (bstep D4.out hb)
        clear hb hB4 D4
        go_wp2_with fail
        go_ret
        exact ⟨rfl, D5.out⟩
      · have hq := hboth.out rfl rfl
        subst hq
        clear hboth
        simp only [Bool.true_and] at s3 ⊢
        have hne : (qi != qi) = false := by simp
        cases qi
        · go_wp2_with fail
          refine (s1 _ hA3.out).mono ?_
          rintro e w4 ⟨rfl, hb⟩
          have D4 := Lib.hid (bstep D3.out hb)
          have hA4 := Lib.hid (hA3.out.up hb (Nat.le_refl _))
          have hB4 := Lib.hid (hB3.out.up hb (Nat.le_refl _))
          clear hb hA3 hB3 D3
          go_wp2_with fail
          refine (s2 _ hB4.out).mono ?_
          rintro e w5 ⟨rfl, hb⟩
          have D5 := Lib.hid (bstep D4.out hb)
          have hA5 := Lib.hid (hA4.out.up hb (Nat.le_refl _))
          have hB5 := Lib.hid (hB4.out.up hb (Nat.le_refl _))
          clear hb hA4 hB4 D4
          go_wp2_with fail
          refine (s4 _ hA5.out hB5.out).mono ?_
          rintro e w6 ⟨rfl, hb⟩
          have D6 := Lib.hid (bstep D5.out hb)
          clear hb hA5 hB5 D5
          go_wp2_with fail
          go_ret
          exact ⟨rfl, D6.out⟩
        · go_wp2_with fail
          refine (s1 _ hA3.out).mono ?_
          rintro e w4 ⟨rfl, hb⟩
          have D4 := Lib.hid (bstep D3.out hb)
          have hA4 := Lib.hid (hA3.out.up hb (Nat.le_refl _))
          have hB4 := Lib.hid (hB3.out.up hb (Nat.le_refl _))
          clear hb hA3 hB3 D3
          go_wp2_with fail
          refine (s2 _ hB4.out).mono ?_
          rintro e w5 ⟨rfl, hb⟩
          have D5 := Lib.hid (bstep D4.out hb)
          have hA5 := Lib.hid (hA4.out.up hb (Nat.le_refl _))
          have hB5 := Lib.hid (hB4.out.up hb (Nat.le_refl _))
          clear hb hA4 hB4 D4
          go_wp2_with fail
          refine (s3 _ hB5.out hA5.out).mono ?_
          rintro e w6 ⟨rfl, hb⟩
          have D6 := Lib.hid (bstep D5.out hb)
          have hA6 := Lib.hid (hA5.out.up hb (Nat.le_refl _))
          have hB6 := Lib.hid (hB5.out.up hb (Nat.le_refl _))
          clear hb hA5 hB5 D5
          go_wp2_with fail
          refine (s4 _ hA6.out hB6.out).mono ?_
          rintro e w7 ⟨rfl, hb⟩
          have D7 := Lib.hid (bstep D6.out hb)
          clear hb hA6 hB6 D6
          go_wp2_with fail
          go_ret
          exact ⟨by simp, D7.out⟩
end Go.Proofs.Ytigaepbhbfpijaa
