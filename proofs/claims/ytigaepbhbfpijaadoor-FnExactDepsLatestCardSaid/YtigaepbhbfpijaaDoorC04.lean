/- Texts laid together. -/
import Derived.Test.YtigaepbhbfpijaaDoorC03
import Derived.Shelf.Spec.TrailingZeros
import Derived.Test.YtigaepbhbfpijaaDoorC01
import Derived.Deep.RegionWith
import Derived.Test.YtigaepbhbfpijaaDoorC02
import Derived.Test.YtigaepbhbfpijaaDoorProg
import Derived.WalkKit
import Derived.WalkSpells
import Derived.Lib.Hide
import Derived.Deep.QuietTactic
import Derived.BigQuiet
import Derived.Deep.DeepCutAuto
import Derived.OwnWalk
/- math/bits.TrailingZeros64. -/
namespace Go.Proofs.YtigaepbhbfpijaaDoor
open Go.RowKit
set_option linter.unusedVariables false

theorem tz_core (x k idx : Nat) (w : World) (hx0 : ((x : Int) == 0) = false)
    (key : IntKind.u64.wrap (bits BinOp.and IntKind.u64 (x : Int) (IntKind.u64.wrap (-(x : Int))) * 285870213051353865) / 288230376151711744 = (idx : Int))
    (hi : idx < 64) (hk : k < 64) (hcell : w.cell? ⟨0, idx, none⟩ = some (.int .u8 k)) :
    Calls Tryd.prog 50 #[.int .u64 x] w fun e w' => e = .returned (.int .i64 k) ∧ w = w' := by
  go_enter Tryd.func50, Tryd.ntmps50
  go_wp2_with (simp only [key])
  go_ret
  exact ⟨rfl, rfl⟩

/-- The library's table lies in its variable. -/
def TabIn (w : World) : Prop := TabAt 0 Lib.deBruijn64tab w

theorem tz_any (x : Nat) (w : World) (hx : x < 18446744073709551616) (h0 : x ≠ 0) (hT : TabIn w) :
    Calls Tryd.prog 50 #[.int .u64 x] w fun e w' => e = .returned (.int .i64 (Lib.ctz 64 x)) ∧ w = w' := by
  obtain ⟨hlow, hk⟩ := Lib.lowest_bit 64 x h0 hx
  obtain ⟨hi, htab⟩ := Lib.deBruijn64_at _ hk
  have hcell := hT _ hi
  rw [htab] at hcell
  exact tz_core x _ _ w (by simp; omega) (tz64_key x _ hx h0 hlow) hi hk hcell
end Go.Proofs.YtigaepbhbfpijaaDoor

/- The laws' copies of ids. -/
namespace Go.Proofs.YtigaepbhbfpijaaDoor
open Go.RowKit
set_option linter.unusedVariables false

theorem toId_any (r n : Int) (w : World) :
    Calls Tryd.prog 42 #[.agg #[.int .i64 r, .int .i64 n]] w fun e w' => e = .returned (.agg #[.int .i64 r, .int .i64 n]) ∧ Below w.heap.size w w' := by
  go_enter Tryd.func42, Tryd.ntmps42
  go_wp2_with fail
  exact bodyPost_ret (v := .agg #[.int .i64 r, .int .i64 n]) (by simp [results, Tryd.results42, go_sem]) rfl ⟨rfl, by repeat (first | with_reducible exact Below.refl _ _ | with_reducible refine Below.setCell ?_ (by first | (simp; done) | (simp; omega)) _ | with_reducible refine Below.alloc ?_ (by first | (simp; done) | (simp; omega)) _)⟩

end Go.Proofs.YtigaepbhbfpijaaDoor

/- The laws' copies, comparisons and marks of slices of ids. -/
namespace Go.Proofs.YtigaepbhbfpijaaDoor
open Go.RowKit
set_option linter.unusedVariables false

theorem madeP (n j : Nat) (h : j < n * 2) : (madeCells #[.int .i64 0, .int .i64 0] (n * 2))[j]? = some (.int .i64 0) := by
  unfold madeCells
  rw [Array.getElem?_map, Array.getElem?_range]
  rw [if_pos h]
  have : j % 2 = 0 ∨ j % 2 = 1 := by omega
  rcases this with e | e <;> simp [e]

theorem repP_get (n i : Nat) : (List.replicate n nop).getD i nop = nop := by
  rw [List.getD_eq_getElem?_getD, List.getElem?_replicate]
  split <;> rfl

theorem ownP_made (w : World) (n : Nat) (hn : n ≤ 2000000) (t : TypeId) : OwnP (w.alloc (.cells (madeCells #[.int .i64 0, .int .i64 0] (n * 2)) t)) w.heap.size (.slice (some ⟨w.heap.size, 0, none⟩) n n) (List.replicate n nop) := by
  refine ⟨n, _, t, by simp, heap_alloc_new w _, by simp, by simpa using hn, fun i hi => ?_⟩
  rw [List.length_replicate] at hi
  rw [madeP n _ (by omega), madeP n _ (by omega), repP_get]
  exact ⟨rfl, rfl⟩

theorem info_id : (Tryd.prog.info? 31).map (fun i => (i.zero, i.size, i.bytes)) = some (some (.agg #[.int .i64 0, .int .i64 0]), 2, 16) := by kernel_rfl

theorem made_ids (n : Nat) (hn : n ≤ 2000000) (w : World) : (Instr.makeSlice 23 (.int .i64 n) (.int .i64 n)).run Tryd.prog w = .ok (.slice (some ⟨w.heap.size, 0, none⟩) n n) (w.alloc (.cells (madeCells #[.int .i64 0, .int .i64 0] (n * 2)) 31)) := by
  obtain ⟨i, hi, hz, hs, hb⟩ := info_parts info_id
  have hr := run_make (P := Tryd.prog) w 23 31 i _ Tryd.underlying23 hi hz .i64 .i64 n n (by omega) (Int.le_refl _) (by rw [hb]; omega) (by omega)
  simp only [Int.toNat_natCast, hs] at hr
  exact hr

theorem id_same {A B : List Pid} (hl : A.length = B.length) (h : ∀ j, j < A.length → A.getD j nop = B.getD j nop) : A = B := by
  apply List.ext_getElem hl
  intro i h1 h2
  have := h i h1
  rw [List.getD_eq_getElem?_getD, List.getD_eq_getElem?_getD, List.getElem?_eq_getElem h1, List.getElem?_eq_getElem h2] at this
  simpa using this
theorem id_up {M C : List Pid} {k : Nat} (hM : k < M.length) (h : ∀ j, j < k → M.getD j nop = C.getD j nop) : ∀ j, j < k + 1 → (M.set k (C.getD k nop)).getD j nop = C.getD j nop := by
  intro j hj
  by_cases e : j = k
  · subst e; rw [List.getD_eq_getElem?_getD, List.getElem?_set_self hM]; rfl
  · rw [List.getD_eq_getElem?_getD, List.getElem?_set_ne (fun x => e x.symm), ← List.getD_eq_getElem?_getD]; exact h j (by omega)

/-- What toIdS leaves: a copy in a block of its own. -/
def CopPPost (C : List Pid) (w : World) (e : Ending) (w' : World) : Prop :=
  ∃ b u, w.heap.size ≤ b ∧ e = .returned u ∧ OwnP w' b u C ∧ Below w.heap.size w w'

set_option maxRecDepth 100000 in
set_option maxHeartbeats 2000000 in
theorem toP_at (b off ca : Nat) (C : List Pid) (w : World) (hb : b < w.heap.size) (hm : C.length ≤ 2000000) (h : ∀ i, i < C.length → w.cell? ⟨b, off + i * 2, none⟩ = some (.int .i64 (C.getD i nop).1) ∧ w.cell? ⟨b, off + i * 2 + 1, none⟩ = some (.int .i64 (C.getD i nop).2)) :
    Calls Tryd.prog 25 #[.slice (some ⟨b, off, none⟩) C.length ca] w (CopPPost C w) := by
  have hmk := made_ids C.length hm
  have h := Lib.hid h
  have hO := Lib.hid (ownP_made w C.length hm 31)
  obtain ⟨n, hn⟩ : ∃ n, Hid (C.length = n) := ⟨_, Lib.hid rfl⟩
  rw [hn.out] at hmk hm hO ⊢
  go_enter Tryd.func25, Tryd.ntmps25
  go_wp2_with fail
  clear hmk
  go_loopw [4] (fun i wr => ∃ k : Nat, k ≤ n ∧ i = .int .i64 k ∧ ∃ M : List Pid, Hid (M.length = n ∧ (∀ j, j < k → M.getD j nop = C.getD j nop) ∧ OwnP wr w.heap.size (.slice (some ⟨w.heap.size, 0, none⟩) n n) M) ∧ Below w.heap.size w wr) (fun i _ => n - (intOf i).toNat)
  case atStart => exact ⟨0, Nat.zero_le _, rfl, List.replicate n nop, Lib.hid ⟨by simp, fun j hj => absurd hj (Nat.not_lt_zero _), hO.out⟩, (Below.refl _ _).alloc (Nat.le_refl _) _⟩
  case round =>
    obtain ⟨k, hk, rfl, M, hM, hnx⟩ := hrel
    clear hO
    by_cases hlt : k < n
    · obtain ⟨h0, h1⟩ := h.out k (by rw [hn.out]; exact hlt)
      have q0 := (hnx.cell (p := ⟨b, off + k * 2, none⟩) hb).trans h0
      have q1 := (hnx.cell (p := ⟨b, off + k * 2 + 1, none⟩) hb).trans h1
      clear h0 h1
      obtain ⟨c, hc⟩ : ∃ c, Hid (C.getD k nop = c) := ⟨_, Lib.hid rfl⟩
      rw [hc.out] at q0 q1
      obtain ⟨x, y⟩ := c
      dsimp only at q0 q1
      have hs := Lib.hid hM.out.2.2.lt
      have hnx := Lib.hid hnx
      go_wp2_with fail
      refine (toId_any x y _).mono ?_
      rintro e w1 ⟨rfl, B⟩
      have hO1 := hM.out.2.2.up B hs.out
      obtain ⟨d0, d1⟩ := hO1.cell k (by rw [hM.out.1]; exact hlt)
      have f0 := hO1.free (k * 2)
      have f1 := hO1.free (k * 2 + 1)
      have hs1 := hO1.lt
      have R := Lib.hid (hO1.set k (by rw [hM.out.1]; exact hlt) (x, y))
      have R2 := Lib.hid (id_up (C := C) (by rw [hM.out.1]; exact hlt) hM.out.2.1)
      have hl := Lib.hid hM.out.1
      have D1 := Lib.hid (hnx.out.trans (B.mono hnx.out.size))
      generalize M.getD k nop = y0 at d0 d1
      clear hM h hO1 B hnx q0 q1 hs
      go_wp2_with fail
      go_roundw
      case rel => exact ⟨k + 1, by omega, by go_num, M.set k (x, y), Lib.hid ⟨by rw [List.length_set]; exact hl.out, by rw [← hc.out]; exact R2.out, R.out⟩, (D1.out.setCell (by simp) _).setCell (by simp) _⟩
      case measure => simp [intOf]; omega
    · obtain rfl : k = n := by omega
      have e : Hid (M = C) := Lib.hid (id_same (hM.out.1.trans hn.out.symm) (fun j hj => hM.out.2.1 j (by rw [← hM.out.1]; exact hj)))
      have hnx := Lib.hid hnx
      clear h
      go_wp2_with fail
      go_ret
      exact ⟨w.heap.size, _, Nat.le_refl _, rfl, by rw [← e.out]; exact hM.out.2.2, hnx.out⟩

theorem toP_nil (a : Option Addr) (ca : Nat) (w : World) :
    Calls Tryd.prog 25 #[.slice a 0 ca] w (CopPPost [] w) := by
  have hmk : ∀ w : World, (Instr.makeSlice 23 (.int .i64 0) (.int .i64 0)).run Tryd.prog w = .ok (.slice (some ⟨w.heap.size, 0, none⟩) 0 0) (w.alloc (.cells (madeCells #[.int .i64 0, .int .i64 0] (0 * 2)) 31)) := made_ids 0 (by omega)
  have hO := Lib.hid (ownP_made w 0 (by omega) 31)
  go_enter Tryd.func25, Tryd.ntmps25
  go_wp2_with fail
  refine wp_loop_rounds 1 ?_
  rw [rounds_succ]
  go_wp2_with fail
  go_ret
  exact ⟨w.heap.size, _, Nat.le_refl _, rfl, hO.out, (Below.refl _ _).alloc (Nat.le_refl _) _⟩

/-- A COPY. -/
theorem toP_any (u : Value) (C : List Pid) (w : World) (h : Ids w u C) :
    Calls Tryd.prog 25 #[u] w (CopPPost C w) := by
  obtain ⟨a, cap, rfl, h1, h2, h3⟩ := h
  rcases h3 with h3 | ⟨b, off, rfl, h4, h5⟩
  · obtain rfl : C = [] := List.length_eq_zero_iff.1 h3
    exact toP_nil a cap w
  · exact toP_at b off cap C w h4 h2 h5

theorem eqP1 (x y : Int) (w : World) :
    Calls Tryd.prog 43 #[.agg #[.int .i64 x, .int .i64 y], .agg #[.int .i64 x, .int .i64 y]] w fun e w' => e = .returned (.bool true) ∧ Below w.heap.size w w' := by
  go_enter Tryd.func43, Tryd.ntmps43
  go_wp2_with fail
  go_ret
  exact ⟨rfl, ((Below.refl _ _).alloc (Nat.le_refl _) _).alloc (by simp) _⟩

set_option maxRecDepth 100000 in
set_option maxHeartbeats 2000000 in
theorem eqP_at (a b oa ob ca cb : Nat) (C : List Pid) (w : World) (hm : C.length ≤ 2000000) (ha : a < w.heap.size) (hb : b < w.heap.size)
    (hA : ∀ i, i < C.length → w.cell? ⟨a, oa + i * 2, none⟩ = some (.int .i64 (C.getD i nop).1) ∧ w.cell? ⟨a, oa + i * 2 + 1, none⟩ = some (.int .i64 (C.getD i nop).2))
    (hB : ∀ i, i < C.length → w.cell? ⟨b, ob + i * 2, none⟩ = some (.int .i64 (C.getD i nop).1) ∧ w.cell? ⟨b, ob + i * 2 + 1, none⟩ = some (.int .i64 (C.getD i nop).2)) :
    Calls Tryd.prog 26 #[.slice (some ⟨a, oa, none⟩) C.length ca, .slice (some ⟨b, ob, none⟩) C.length cb] w fun e w' => e = .returned (.bool true) ∧ Below w.heap.size w w' := by
  have hA := Lib.hid hA
  have hB := Lib.hid hB
  obtain ⟨n, hn⟩ : ∃ n, Hid (C.length = n) := ⟨_, Lib.hid rfl⟩
  rw [hn.out] at hm ⊢
  go_enter Tryd.func26, Tryd.ntmps26
  go_wp2_with fail
  go_loopw [5] (fun i wr => ∃ k : Nat, k ≤ n ∧ i = .int .i64 k ∧ Below w.heap.size w wr) (fun i _ => n - (intOf i).toNat)
  case atStart => exact ⟨0, Nat.zero_le _, rfl, Below.refl _ _⟩
  case round =>
    obtain ⟨k, hk, rfl, hnx⟩ := hrel
    by_cases hlt : k < n
    · obtain ⟨h0, h1⟩ := hA.out k (by rw [hn.out]; exact hlt)
      have q0 := (hnx.cell (p := ⟨a, oa + k * 2, none⟩) ha).trans h0
      have q1 := (hnx.cell (p := ⟨a, oa + k * 2 + 1, none⟩) ha).trans h1
      clear h0 h1
      obtain ⟨h0, h1⟩ := hB.out k (by rw [hn.out]; exact hlt)
      have r0 := (hnx.cell (p := ⟨b, ob + k * 2, none⟩) hb).trans h0
      have r1 := (hnx.cell (p := ⟨b, ob + k * 2 + 1, none⟩) hb).trans h1
      clear h0 h1 hA hB
      generalize C.getD k nop = c at q0 q1 r0 r1
      obtain ⟨x, y⟩ := c
      dsimp only at q0 q1 r0 r1
      have hnx := Lib.hid hnx
      go_wp2_with fail
      go_region_with (first | (go_at_call 43; refine (eqP1 x y _).mono ?_; rintro e w1 ⟨rfl, B⟩; have D1 := Lib.hid (bstep (Below.drew hnx.out) B); clear B))
      all_goals
        go_wp2_with fail
        go_roundw
        case rel => exact ⟨k + 1, by omega, by go_num, D1.out⟩
        case measure => simp [intOf]; omega
    · obtain rfl : k = n := by omega
      have hnx := Lib.hid hnx
      clear hA hB
      go_wp2_with fail
      go_ret
      exact ⟨rfl, hnx.out⟩

theorem eqP_nil (a b : Option Addr) (ca cb : Nat) (w : World) :
    Calls Tryd.prog 26 #[.slice a 0 ca, .slice b 0 cb] w fun e w' => e = .returned (.bool true) ∧ Below w.heap.size w w' := by
  go_enter Tryd.func26, Tryd.ntmps26
  go_wp2_with fail
  refine wp_loop_rounds 1 ?_
  rw [rounds_succ]
  go_wp2_with fail
  go_ret
  exact ⟨rfl, Below.refl _ _⟩

theorem eqP_any (u x : Value) (C : List Pid) (w : World) (h : Ids w u C) (g : Ids w x C) :
    Calls Tryd.prog 26 #[u, x] w fun e w' => e = .returned (.bool true) ∧ Below w.heap.size w w' := by
  obtain ⟨a, cap, rfl, h1, h2, h3⟩ := h
  obtain ⟨b, cap', rfl, g1, g2, g3⟩ := g
  rcases h3 with h3 | ⟨a, off, rfl, h4, h5⟩
  · obtain rfl : C = [] := List.length_eq_zero_iff.1 h3
    exact eqP_nil a b cap cap' w
  · rcases g3 with g3 | ⟨b, off', rfl, g4, g5⟩
    · obtain rfl : C = [] := List.length_eq_zero_iff.1 g3
      exact eqP_nil _ b cap cap' w
    · exact eqP_at a b off off' cap cap' C w h2 h4 g4 h5 g5
end Go.Proofs.YtigaepbhbfpijaaDoor

/- The program's ids of a set. -/
namespace Go.Proofs.YtigaepbhbfpijaaDoor
open Go.RowKit
set_option linter.unusedVariables false

theorem TabIn.up {w w' : World} {B : Nat} (h : TabIn w) (hb : Below B w w') (hB : w.heap.size ≤ B) : TabIn w' := by
  intro j hj
  have hc := h j hj
  have hl : 0 < w.heap.size := by simpa using World.block_lt_of_cell? w _ hc
  exact (hb.cell (p := ⟨0, j, none⟩) (Nat.lt_of_lt_of_le hl hB)).trans hc

theorem make_cap (n : Nat) (hn : n ≤ 2000000) (w : World) : (Instr.makeSlice 23 (.int .i64 0) (.int .i64 n)).run Tryd.prog w = .ok (.slice (some ⟨w.heap.size, 0, none⟩) 0 n) (w.alloc (.cells (madeCells #[.int .i64 0, .int .i64 0] (n * 2)) 31)) := by
  obtain ⟨i, hi, hz, hs, hb⟩ := info_parts info_id
  have hr := run_make (P := Tryd.prog) w 23 31 i _ Tryd.underlying23 hi hz .i64 .i64 0 n (by omega) (by omega) (by rw [hb]; omega) (by omega)
  simp only [Int.toNat_natCast, hs] at hr
  exact hr
theorem madeP_size (n : Nat) : (madeCells #[.int .i64 0, .int .i64 0] (n * 2)).size = n * 2 := by simp [madeCells]
theorem row_cap (w : World) (n B : Nat) (hB : B ≤ w.heap.size) (hn : n ≤ 2000000) : Row (w.alloc (.cells (madeCells #[.int .i64 0, .int .i64 0] (n * 2)) 31)) B (.slice (some ⟨w.heap.size, 0, none⟩) 0 n) [] :=
  ⟨World.ownsRow_made _ _ n hB (by unfold maxLen; omega) (madeP_size n), by simp⟩

theorem ido_next {w w1 w2 : World} {v v' : Value} {O : List Pid} {x y : Int} {o : Obj} (hR : Row w1 w.heap.size v O) (hown : w2.ownsRow w.heap.size 31 2 v' (O.length + 1) (flatP O ++ [.int .i64 x, .int .i64 y]))
    (hg : (w1.alloc o).grownBy w2 (Value.ownBlock v)) (hn : v' ≠ .slice none 0 0) (D : Below w.heap.size w w1) : Row w2 w.heap.size v' (O ++ [(x, y)]) ∧ Below w.heap.size w w2 := by
  have hR1 : Row (w1.alloc o) w.heap.size v O := hR.up ((Below.refl _ _).alloc (Nat.le_refl _) _)
  exact ⟨hR.put hown hn, (D.alloc D.size o).trans (grown_below hR1 hg (by have := D.size; simp; omega))⟩

/-- What ids leaves. -/
def IdsoPost (f : Nat → Nat) (w : World) (e : Ending) (w' : World) : Prop :=
  ∃ b u, w.heap.size ≤ b ∧ e = .returned u ∧ OwnP w' b u (idsO f) ∧ Below w.heap.size w w'

theorem ido_len {f : Nat → Nat} {O X Y : List Pid} (h : O ++ (X ++ Y) = idsO f) : O.length ≤ 320 := by
  have := congrArg List.length h
  rw [List.length_append, idsO_len] at this
  have := manyN_le f
  omega

set_option maxRecDepth 100000 in
set_option maxHeartbeats 4000000 in
theorem idso_any (f : Nat → Nat) (w : World) (hf : ∀ r, f r < 2251799813685248) (hT : TabIn w) :
    Calls Tryd.prog 34 #[setV f] w (IdsoPost f w) := by
  obtain ⟨i0, hi, hz0, hz1, hz2⟩ := info_parts infoP
  have sm := fun w => many_any f w hf
  have hml := manyN_le f
  obtain ⟨mn, hmn⟩ : ∃ n, Hid (manyN f = n) := ⟨_, Lib.hid rfl⟩
  rw [hmn.out] at sm hml
  have hmk := make_cap mn (by omega)
  have ki : ∀ (r : Nat), r < 5 → ∀ w : World, (Instr.index 47 (.agg #[.int .u64 (f 0), .int .u64 (f 1), .int .u64 (f 2), .int .u64 (f 3), .int .u64 (f 4)]) (.int .i64 r)).run Tryd.prog w = .ok (.int .u64 (f r)) w := by
    intro r hr w
    rcases (show r = 0 ∨ r = 1 ∨ r = 2 ∨ r = 3 ∨ r = 4 by omega) with rfl | rfl | rfl | rfl | rfl
    · exact sx_i0 _ _ _ _ _ w
    · exact sx_i1 _ _ _ _ _ w
    · exact sx_i2 _ _ _ _ _ w
    · exact sx_i3 _ _ _ _ _ w
    · exact sx_i4 _ _ _ _ _ w
  have ki := Lib.hid ki
  have hf := Lib.hid hf
  have hT := Lib.hid hT
  unfold setV at sm ⊢
  go_enter Tryd.func34, Tryd.ntmps34
  go_wp2_with fail
  refine (sm _).mono ?_
  rintro e w1 ⟨rfl, hb⟩
  have A1 := (hb.block w.heap.size (by simp)).trans (heap_alloc_new w (.cells #[.int .u64 (f 0), .int .u64 (f 1), .int .u64 (f 2), .int .u64 (f 3), .int .u64 (f 4)] 47))
  have z1 : w.heap.size + 1 ≤ w1.heap.size := by simpa using hb.size
  have D1 := ((Below.refl w.heap.size w).alloc (Nat.le_refl _) (.cells #[.int .u64 (f 0), .int .u64 (f 1), .int .u64 (f 2), .int .u64 (f 3), .int .u64 (f 4)] 47)).trans (hb.mono (by simp))
  have A2 : Set5 (w1.alloc (.cells (madeCells #[.int .i64 0, .int .i64 0] (mn * 2)) 31)) w.heap.size f := (Below.heap_alloc _ _ _ (by omega)).trans A1
  obtain ⟨x0, x1, x2, x3, x4⟩ := A2.five
  have A1' : Set5 w1 w.heap.size f := A1
  obtain ⟨y0, y1, y2, y3, y4⟩ := A1'.five
  have R1 := Lib.hid (row_cap w1 mn w.heap.size (by omega) (by omega))
  have D2 := Lib.hid (D1.alloc (by omega) (.cells (madeCells #[.int .i64 0, .int .i64 0] (mn * 2)) 31))
  clear hb A1 A1' A2 D1 sm
  go_wp2_with fail
  clear hmk x0 x1 x2 x3 x4 y0 y1 y2 y3 y4 hml hmn
  go_loopw [3, 10] (fun v i wr => ∃ r : Nat, r ≤ 5 ∧ i = .int .i64 r ∧ ∃ O : List Pid, Hid (O ++ idsFrom f r (5 - r) = idsO f) ∧ Hid (Row wr w.heap.size v O) ∧ Hid (Below w.heap.size w wr)) (fun _ i _ => 5 - (intOf i).toNat)
  case atStart => exact ⟨0, Nat.zero_le _, rfl, [], Lib.hid rfl, R1, D2⟩
  case round =>
    obtain ⟨r, hr, rfl, O, hE, hR, hD⟩ := hrel
    clear R1 D2
    obtain ⟨wo, rfl⟩ : ∃ wo : World, wo = wr := ⟨_, rfl⟩
    by_cases hlt : r < 5
    · have kk := ki.out r hlt
      have hfr := Lib.hid (hf.out r)
      have hE : Hid (O ++ (bitsL r (f r) ++ idsFrom f (r + 1) (4 - r)) = idsO f) := Lib.hid (by rw [← hE.out, show 5 - r = (4 - r) + 1 by omega, idsFrom])
      go_wp2_with fail
      simp only [show decide ((r : Int) < 5) = true from decide_eq_true (by omega)]
      go_loopw [3, 5] (fun v q wr => ∃ m : Nat, Hid (m < 2251799813685248) ∧ q = .int .u64 m ∧ ∃ O : List Pid, Hid (O ++ (bitsL r m ++ idsFrom f (r + 1) (4 - r)) = idsO f) ∧ Hid (Row wr w.heap.size v O) ∧ Hid (Below w.heap.size w wr)) (fun _ q _ => (intOf q).toNat)
      case atStart => exact ⟨f r, hfr, rfl, O, hE, hR, hD⟩
      case round =>
        obtain ⟨m, hm, rfl, O, hE, hR, hD⟩ := hrel
        have hOl := ido_len hE.out
        have hm' := hm.out
        by_cases hm0 : m = 0
        · subst hm0
          have hE : Hid (O ++ idsFrom f (r + 1) (5 - (r + 1)) = idsO f) := Lib.hid (by rw [← hE.out, bitsL_zero, List.nil_append, show 5 - (r + 1) = 4 - r by omega])
          clear hm'
          go_wp2_with fail
          go_roundw
          case rel => exact ⟨r + 1, by omega, by go_num, O, hE, hR, hD⟩
          case measure => simp [intOf]; omega
        · have hm0' : ((m : Int) == 0) = false := by simpa using hm0
          have hm0n : ((m : Int) != 0) = true := by simpa using hm0
          have tz := tz_any m wr (by omega) hm0 (hT.out.up hD.out (Nat.le_refl _))
          have hE2 : Hid ((O ++ [((r : Int), ((Lib.ctz 64 m : Nat) : Int))]) ++ (bitsL r (m &&& (m - 1)) ++ idsFrom f (r + 1) (4 - r)) = idsO f) := Lib.hid (by rw [← hE.out, bitsL_cons hm0 (by omega)]; simp)
          have hless := low_less hm0
          have ws : IntKind.u64.wrap ((m : Int) - 1) = ((m - 1 : Nat) : Int) := by rw [show ((m : Int) - 1) = ((m - 1 : Nat) : Int) by omega]; exact wrapN _ (by omega)
          have wa : bits .and .u64 (m : Int) ((m - 1 : Nat) : Int) = ((m &&& (m - 1) : Nat) : Int) := bits_and_u64_nat m (m - 1) (by omega) (by omega)
          generalize m &&& (m - 1) = m' at hE2 hless wa
          generalize Lib.ctz 64 m = t at tz hE2
          obtain ⟨mp, hmp⟩ : ∃ k, Hid (m - 1 = k) := ⟨_, Lib.hid rfl⟩
          rw [hmp.out] at ws wa
          have hm2 := Lib.hid (show m' < 2251799813685248 by omega)
          clear hE hm'
          go_wp2_with fail
          refine tz.mono ?_
          rintro e w3 ⟨rfl, rfl⟩
          clear tz
          go_wp2_with (at_builtin; refine wpList_append_own _ rfl _ _ 23 rfl w.heap.size 31 i0 (.agg #[.int .i64 0, .int .i64 0]) 2 16 Tryd.underlying23 hi hz0 hz1 hz2 rfl (by decide) _ _ _ rfl (hR.out.1.alloc _) ⟨wr.heap.size, 0, none⟩ 1 1 [.int .i64 r, .int .i64 t] rfl rfl ?c1 ?c2 ?c3 ?c4 ?c5 ?_)
          case c1 => exact two_cells _ _ _ _ _ (by simp)
          case c2 => intro u hu; simp at hu; rcases hu with rfl | rfl <;> rfl
          case c3 => unfold maxLen; omega
          case c4 => omega
          case c5 => have := hD.out.size; simp; omega
          intro v' w4 hown' hgrow hnil
          have X := ido_next hR.out hown' hgrow (fun e => hnil e) hD.out
          have hR' := Lib.hid X.1
          have hD' := Lib.hid X.2
          clear X hown' hgrow hnil hR hD
          go_wp2_with fail
          go_roundw
          case rel => exact ⟨m', hm2, by go_num, _, hE2, hR', hD'⟩
          case measure => simp [intOf]; omega
    · obtain rfl : r = 5 := by omega
      have hE : Hid (O = idsO f) := Lib.hid (by rw [← hE.out]; simp [idsFrom])
      have hOl : O.length ≤ 320 := by rw [hE.out, idsO_len]; exact manyN_le f
      obtain ⟨o, ho, hown⟩ := hR.out.own (by omega)
      have hown := Lib.hid hown
      clear hR
      go_wp2_with fail
      go_ret
      exact ⟨o, _, ho, rfl, by rw [← hE.out]; exact hown.out, hD.out⟩
end Go.Proofs.YtigaepbhbfpijaaDoor

/- The program's DepsJoin. -/
namespace Go.Proofs.YtigaepbhbfpijaaDoor
open Go.RowKit
set_option linter.unusedVariables false

/-- What a join leaves. -/
def JoinPost (R : List Pid × Bool) (w : World) (e : Ending) (w' : World) : Prop :=
  ∃ b u, w.heap.size ≤ b ∧ e = .returned (.tuple #[u, .bool R.2]) ∧ OwnP w' b u R.1 ∧ Below w.heap.size w w'

theorem joinF_lt {f g : Nat → Nat} (hf : ∀ r, f r < 2251799813685248) (hg : ∀ r, g r < 2251799813685248) (r : Nat) : joinF f g r < 2251799813685248 :=
  Nat.or_lt_two_pow (n := 51) (hf r) (hg r)

set_option maxRecDepth 100000 in
set_option maxHeartbeats 4000000 in
theorem djoin_any (u v : Value) (A B : List Pid) (w : World) (h : Ids w u A) (g : Ids w v B) (hT : TabIn w) :
    Calls Tryd.prog 12 #[u, v] w (JoinPost (joinR A B) w) := by
  have h := Lib.hid h
  have g := Lib.hid g
  have hT := Lib.hid hT
  have sj := fun w => join_any (setF A) (setF B) w (setF_lt A) (setF_lt B)
  have sm := fun w => many_any (joinF (setF A) (setF B)) w (joinF_lt (setF_lt A) (setF_lt B))
  have si := fun w h => idso_any (joinF (setF A) (setF B)) w (joinF_lt (setF_lt A) (setF_lt B)) h
  have hval : Hid (srtB A = true → srtB B = true → idsO (joinF (setF A) (setF B)) = joinP A B) := Lib.hid idsO_join
  have hlen := idsO_len (joinF (setF A) (setF B))
  obtain ⟨f, hf⟩ : ∃ f, Hid (setF A = f) := ⟨_, Lib.hid rfl⟩
  obtain ⟨f', hf'⟩ : ∃ f', Hid (setF B = f') := ⟨_, Lib.hid rfl⟩
  rw [hf.out, hf'.out] at sj sm si hval hlen
  obtain ⟨j, hj⟩ : ∃ j, Hid (joinF f f' = j) := ⟨_, Lib.hid rfl⟩
  rw [hj.out] at sj sm si hval hlen
  obtain ⟨mn, hmn⟩ : ∃ n, Hid (manyN j = n) := ⟨_, Lib.hid rfl⟩
  rw [hmn.out] at sm hlen
  clear hmn
  have hlen := Lib.hid hlen
  obtain ⟨qa, hqa⟩ : ∃ q, Hid (srtB A = q) := ⟨_, Lib.hid rfl⟩
  obtain ⟨qb, hqb⟩ : ∃ q, Hid (srtB B = q) := ⟨_, Lib.hid rfl⟩
  obtain ⟨S, fl, hR⟩ : ∃ S fl, Hid (joinR A B = (S, fl)) := ⟨_, _, Lib.hid rfl⟩
  rw [hR.out]
  unfold setV at sj sm si
  go_enter Tryd.func12, Tryd.ntmps12
  go_wp2_with fail
  refine (iset_any u A _ h.out).mono ?_
  rintro e w1 ⟨rfl, hb⟩
  rw [hf.out, hqa.out]
  have D1 := Lib.hid (hb.alloc hb.size (.cells #[.int .u64 (f 0), .int .u64 (f 1), .int .u64 (f 2), .int .u64 (f 3), .int .u64 (f 4)] 47))
  have A1 : Hid (Set5 (w1.alloc (.cells #[.int .u64 (f 0), .int .u64 (f 1), .int .u64 (f 2), .int .u64 (f 3), .int .u64 (f 4)] 47)) w1.heap.size f) := Lib.hid (heap_alloc_new w1 _)
  have g1 := Lib.hid (g.out.up D1.out (Nat.le_refl _))
  clear hb h g
  unfold setV
  go_wp2_with fail
  refine (iset_any v B _ g1.out).mono ?_
  rintro e w2 ⟨rfl, hb⟩
  rw [hf'.out, hqb.out]
  unfold setV
  have hs1 : w1.heap.size < w2.heap.size := Nat.lt_of_lt_of_le (by simp) hb.size
  have A2 := A1.out.up hb (by simp)
  have A3 := A2.up ((Below.refl _ _).alloc (Nat.le_refl _) (.cells #[.int .u64 (f' 0), .int .u64 (f' 1), .int .u64 (f' 2), .int .u64 (f' 3), .int .u64 (f' 4)] 47)) hs1
  have B3 : Set5 (w2.alloc (.cells #[.int .u64 (f' 0), .int .u64 (f' 1), .int .u64 (f' 2), .int .u64 (f' 3), .int .u64 (f' 4)] 47)) w2.heap.size f' := heap_alloc_new w2 _
  have D2 := bstep D1.out hb
  have D2 := Lib.hid (D2.alloc D2.size (.cells #[.int .u64 (f' 0), .int .u64 (f' 1), .int .u64 (f' 2), .int .u64 (f' 3), .int .u64 (f' 4)] 47))
  obtain ⟨x0, x1, x2, x3, x4⟩ := A2.five
  clear hb A1 A2 A3 B3 D1 g1
  go_wp2_with fail
  refine (sj _).mono ?_
  rintro e w3 ⟨rfl, hb⟩
  have D3 := bstep D2.out hb
  have C3 : Hid (Set5 (w3.alloc (.cells #[.int .u64 (j 0), .int .u64 (j 1), .int .u64 (j 2), .int .u64 (j 3), .int .u64 (j 4)] 47)) w3.heap.size j) := Lib.hid (heap_alloc_new w3 _)
  have N3 := Lib.hid (ownP_nil (w3.alloc (.cells #[.int .u64 (j 0), .int .u64 (j 1), .int .u64 (j 2), .int .u64 (j 3), .int .u64 (j 4)] 47)) 31)
  have hs3 := D3.size
  have D3 := Lib.hid (D3.alloc D3.size (.cells #[.int .u64 (j 0), .int .u64 (j 1), .int .u64 (j 2), .int .u64 (j 3), .int .u64 (j 4)] 47))
  clear hb D2 sj x0 x1 x2 x3 x4
  cases qa
  · have hR2 := hR.out
    rw [joinR_1 hqa.out] at hR2
    injection hR2 with hS hfl
    subst hS hfl
    clear sm si hval hlen
    go_wp2_with fail
    go_ret2
    exact ⟨w3.heap.size + 1, _, by omega, rfl, by simpa using N3.out, D3.out.alloc D3.out.size _⟩
  · cases qb
    · have hR2 := hR.out
      rw [joinR_2 hqb.out] at hR2
      injection hR2 with hS hfl
      subst hS hfl
      clear sm si hval hlen
      go_wp2_with fail
      go_ret2
      exact ⟨w3.heap.size + 1, _, by omega, rfl, by simpa using N3.out, D3.out.alloc D3.out.size _⟩
    · have hv := hval.out hqa.out hqb.out
      have hl := hlen.out
      rw [hv] at hl
      by_cases h12 : mn ≤ 12
      · have hR2 := hR.out
        rw [joinR_t hqa.out hqb.out (by rw [hl]; exact h12)] at hR2
        injection hR2 with hS hfl
        subst hfl
        have hS := Lib.hid hS
        have hv := Lib.hid hv
        have h12' : ¬ 12 < mn := by omega
        clear hlen hval hl N3
        go_wp2_with fail
        refine (sm _).mono ?_
        rintro e w4 ⟨rfl, hb⟩
        have D4 := Lib.hid (bstep D3.out hb)
        have C4 := C3.out.up hb (by simp)
        obtain ⟨x0, x1, x2, x3, x4⟩ := C4.five
        clear hb D3 C3 C4 sm
        go_wp2_with fail
        refine (si _ (hT.out.up D4.out (Nat.le_refl _))).mono ?_
        rintro e w5 ⟨bb, uu, hbb, rfl, hO, hb⟩
        have D5 := Lib.hid (bstep D4.out hb)
        have hbb2 := Nat.le_trans D4.out.size hbb
        rw [hv.out, hS.out] at hO
        have hO := Lib.hid hO
        clear hb D4 si x0 x1 x2 x3 x4
        go_wp2_with fail
        go_ret2
        exact ⟨bb, _, hbb2, rfl, hO.out, D5.out⟩
      · have hR2 := hR.out
        rw [joinR_3 (by rw [hl]; exact h12)] at hR2
        injection hR2 with hS hfl
        subst hS hfl
        have h12' : 12 < mn := by omega
        clear hlen hval hl hv si N3
        go_wp2_with fail
        refine (sm _).mono ?_
        rintro e w4 ⟨rfl, hb⟩
        have D4 := Lib.hid (bstep D3.out hb)
        have N4 := Lib.hid (ownP_nil w4 31)
        have s4 := D4.out.size
        clear hb D3 C3 sm
        go_wp2_with fail
        go_ret2
        exact ⟨w4.heap.size, _, s4, rfl, N4.out, D4.out.alloc D4.out.size _⟩
end Go.Proofs.YtigaepbhbfpijaaDoor

/- The model's DepsJoin. -/
namespace Go.Proofs.YtigaepbhbfpijaaDoor
open Go.RowKit
set_option linter.unusedVariables false

set_option maxRecDepth 100000 in
set_option maxHeartbeats 4000000 in
theorem sdj_any (u v : Value) (A B : List Pid) (w : World) (h : Ids w u A) (g : Ids w v B) :
    Calls Tryd.prog 13 #[u, v] w (JoinPost (joinR A B) w) := by
  have h := Lib.hid h
  have g := Lib.hid g
  obtain ⟨qa, hqa⟩ : ∃ q, Hid (srtB A = q) := ⟨_, Lib.hid rfl⟩
  obtain ⟨qb, hqb⟩ : ∃ q, Hid (srtB B = q) := ⟨_, Lib.hid rfl⟩
  obtain ⟨S, fl, hR⟩ : ∃ S fl, Hid (joinR A B = (S, fl)) := ⟨_, _, Lib.hid rfl⟩
  rw [hR.out]
  have s1 := fun w h => sval_any u A w h
  rw [hqa.out] at s1
  cases qa
  · have hR2 := hR.out
    rw [joinR_1 hqa.out] at hR2
    injection hR2 with hS hfl
    subst hS hfl
    go_enter Tryd.func13, Tryd.ntmps13
    go_wp2_with fail
    refine (s1 _ h.out).mono ?_
    rintro e w1 ⟨rfl, hb⟩
    have D1 := Lib.hid hb
    have s4 := hb.size
    have N1 := Lib.hid (ownP_nil w1 31)
    clear hb h g
    go_wp2_with fail
    go_ret2
    exact ⟨w1.heap.size, _, s4, rfl, N1.out, D1.out.alloc D1.out.size _⟩
  · have s2 := fun w h => sval_any v B w h
    rw [hqb.out] at s2
    cases qb
    · have hR2 := hR.out
      rw [joinR_2 hqb.out] at hR2
      injection hR2 with hS hfl
      subst hS hfl
      go_enter Tryd.func13, Tryd.ntmps13
      go_wp2_with fail
      refine (s1 _ h.out).mono ?_
      rintro e w1 ⟨rfl, hb⟩
      replace g := Lib.hid (g.out.up hb (Nat.le_refl _))
      have D := Lib.hid hb
      clear hb h
      go_wp2_with fail
      refine (s2 _ g.out).mono ?_
      rintro e w2 ⟨rfl, hb⟩
      replace D := Lib.hid (bstep D.out hb)
      have s4 := D.out.size
      have N1 := Lib.hid (ownP_nil w2 31)
      clear hb g
      go_wp2_with fail
      go_ret2
      exact ⟨w2.heap.size, _, s4, rfl, N1.out, D.out.alloc D.out.size _⟩
    · have hla : A.length ≤ 12 := (srt_of hqa.out).1
      have hlb : B.length ≤ 12 := (srt_of hqb.out).1
      have hla := Lib.hid hla
      have hlb := Lib.hid hlb
      go_enter Tryd.func13, Tryd.ntmps13
      go_wp2_with fail
      refine (s1 _ h.out).mono ?_
      rintro e w1 ⟨rfl, hb⟩
      replace h := Lib.hid (h.out.up hb (Nat.le_refl _))
      replace g := Lib.hid (g.out.up hb (Nat.le_refl _))
      have D := Lib.hid hb
      clear hb
      go_wp2_with fail
      refine (s2 _ g.out).mono ?_
      rintro e w2 ⟨rfl, hb⟩
      replace h := Lib.hid (h.out.up hb (Nat.le_refl _))
      replace g := Lib.hid (g.out.up hb (Nat.le_refl _))
      replace D := Lib.hid (bstep D.out hb)
      clear hb
      go_wp2_with fail
      refine (l4_any u v A B _ h.out g.out hla.out hlb.out).mono ?_
      rintro e w3 ⟨bb, uu, hbb, rfl, hO, hb⟩
      have hbb2 := Nat.le_trans D.out.size hbb
      replace D := Lib.hid (bstep D.out hb)
      obtain ⟨cp, hv, hcp⟩ := hO.shape
      have hjl : (joinP A B).length ≤ 24 := by
        have := joinP_len A B
        have := hla.out; have := hlb.out; omega
      have h3 := fun hl => joinR_t (a := A) (b := B) hqa.out hqb.out hl
      have h4 := fun hl => joinR_3 (a := A) (b := B) hl
      rw [hR.out] at h3 h4
      have h3 := Lib.hid h3
      have h4 := Lib.hid h4
      generalize joinP A B = J at hO hv hcp hjl h3 h4
      subst hv
      have hO := Lib.hid hO
      clear hb h g
      by_cases h12 : J.length ≤ 12
      · have hR2 := h3.out h12
        injection hR2 with hS hfl
        subst hfl hS
        have h12' : ¬ 12 < S.length := by omega
        clear h3 h4
        go_wp2_with fail
        go_ret2
        exact ⟨bb, _, hbb2, rfl, hO.out, D.out⟩
      · have hR2 := h4.out h12
        injection hR2 with hS hfl
        subst hS hfl
        have h12' : 12 < J.length := by omega
        have s4 := D.out.size
        have N1 := Lib.hid (ownP_nil w3 31)
        clear h3 h4
        go_wp2_with fail
        go_ret2
        exact ⟨w3.heap.size, _, s4, rfl, N1.out, D.out.alloc D.out.size _⟩
end Go.Proofs.YtigaepbhbfpijaaDoor

/- The reader of codes (spec.l6Rd): what it holds, and its pick. -/
namespace Go.Proofs.YtigaepbhbfpijaaDoor
open Go.RowKit
set_option linter.unusedVariables false

/-- Below block B, block r aside, the world is as it was. -/
structure Keep (B r : Nat) (w w' : World) : Prop where
  os : w'.os = w.os
  tape : w'.tape = w.tape
  output : w'.output = w.output
  size : w.heap.size ≤ w'.heap.size
  block : ∀ k, k < B → k ≠ r → w'.heap[k]? = w.heap[k]?

theorem Keep.refl (B r : Nat) (w : World) : Keep B r w w := ⟨rfl, rfl, rfl, Nat.le_refl _, fun _ _ _ => rfl⟩
theorem Keep.trans {B r : Nat} {a b c : World} (h : Keep B r a b) (k : Keep B r b c) : Keep B r a c :=
  ⟨k.os.trans h.os, k.tape.trans h.tape, k.output.trans h.output, Nat.le_trans h.size k.size, fun i hi hr => (k.block i hi hr).trans (h.block i hi hr)⟩
theorem Keep.mono {B B' r : Nat} {w w' : World} (h : Keep B r w w') (hB : B' ≤ B) : Keep B' r w w' := ⟨h.os, h.tape, h.output, h.size, fun k hk => h.block k (Nat.lt_of_lt_of_le hk hB)⟩
theorem Keep.of_below {B r : Nat} {w w' : World} (h : Below B w w') : Keep B r w w' := ⟨h.os, h.tape, h.output, h.size, fun k hk _ => h.block k hk⟩
theorem Keep.below {B r : Nat} {w w' : World} (h : Keep B r w w') (hr : B ≤ r) : Below B w w' := ⟨h.os, h.tape, h.output, h.size, fun k hk => h.block k hk (by omega)⟩
theorem Keep.drewN {B r : Nat} {a w : World} (h : Keep B r a w) (n : Nat) : Keep B r a (w.drewN n) := ⟨h.os, h.tape, h.output, h.size, h.block⟩
theorem Keep.alloc {B r : Nat} {a w : World} (h : Keep B r a w) (hB : B ≤ w.heap.size) (o : Obj) : Keep B r a (w.alloc o) :=
  h.trans (Keep.of_below ((Below.refl B w).alloc hB o))
theorem Keep.setCell {B r : Nat} {a w : World} (h : Keep B r a w) {p : Addr} (hp : B ≤ p.block) (u : Value) : Keep B r a (w.setCell p u) :=
  h.trans (Keep.of_below ((Below.refl B w).setCell hp u))
theorem Keep.setR {B r : Nat} {a w : World} (h : Keep B r a w) (i : Nat) (u : Value) : Keep B r a (w.setCell ⟨r, i, none⟩ u) :=
  h.trans ⟨rfl, rfl, rfl, by simp [World.setCell], fun k _ hk => Below.heap_setCell _ _ _ _ hk⟩

/-- What a walk takes of it: cells and marks of blocks behind r that were there. -/
theorem kcell {r : Nat} {W w1 : World} (hb : Keep W.heap.size r W w1) : (∀ b o, r < b → b < W.heap.size → w1.cell? ⟨b, o, none⟩ = W.cell? ⟨b, o, none⟩) ∧ (∀ b o, r < b → b < W.heap.size → w1.frozen? ⟨b, o, none⟩ = W.frozen? ⟨b, o, none⟩) :=
  ⟨fun b o hr h => World.cell?_of_block (a := ⟨b, o, none⟩) (hb.block b h (by omega)), fun b o hr h => World.frozen?_of_block (a := ⟨b, o, none⟩) (hb.block b h (by omega))⟩

/-- The bytes of a code: none, or the cells of a block. -/
def Bytes (w : World) (r : Nat) (a : Option Addr) (len : Nat) : Prop :=
  len = 0 ∨ ∃ b off, a = some ⟨b, off, none⟩ ∧ b < r ∧ ∀ i, i < len → ∃ z : Int, 0 ≤ z ∧ z ≤ 255 ∧ w.cell? ⟨b, off + i, none⟩ = some (.int .u8 z)

/-- A reader in block r, at a place up to n. -/
def Rd (w : World) (r n : Nat) : Prop :=
  ∃ (a : Option Addr) (len cap : Nat) (p : Int), w.cell? ⟨r, 0, none⟩ = some (.slice a len cap) ∧ w.cell? ⟨r, 1, none⟩ = some (.int .i64 p) ∧ w.frozen? ⟨r, 1, none⟩ = false ∧ 0 ≤ p ∧ p ≤ n ∧ len ≤ 2000 ∧ r < w.heap.size ∧ Bytes w r a len


/-- What pick leaves. -/
def PickPost (k : Int) (r n : Nat) (w : World) (e : Ending) (w' : World) : Prop :=
  ∃ x : Int, e = .returned (.int .i64 x) ∧ 0 ≤ x ∧ (1 ≤ k → x < k) ∧ Rd w' r (n + 1) ∧ Keep w.heap.size r w w'

theorem Bytes.kept {w w' : World} {r : Nat} {a : Option Addr} {len : Nat} (h : Bytes w r a len) (hk : ∀ k, k < r → w'.heap[k]? = w.heap[k]?) : Bytes w' r a len := by
  rcases h with h | ⟨b, off, e, hb, hc⟩
  · exact .inl h
  · exact .inr ⟨b, off, e, hb, fun i hi => by
      obtain ⟨z, z0, z1, hz⟩ := hc i hi
      exact ⟨z, z0, z1, (World.cell?_of_block (a := ⟨b, off + i, none⟩) (hk b hb)).trans hz⟩⟩

/-- A reader is still the reader where nothing up to its block has turned. -/
theorem Rd.kept {w w' : World} {r n : Nat} (h : Rd w r n) (hb : Below (r + 1) w w') : Rd w' r n := by
  obtain ⟨a, len, cap, p, h0, h1, hf, hp0, hp1, hl, hr, hby⟩ := h
  exact ⟨a, len, cap, p, (hb.cell (p := ⟨r, 0, none⟩) (Nat.lt_succ_self r)).trans h0, (hb.cell (p := ⟨r, 1, none⟩) (Nat.lt_succ_self r)).trans h1, (hb.frozen (p := ⟨r, 1, none⟩) (Nat.lt_succ_self r)).trans hf, hp0, hp1, hl, Nat.lt_of_lt_of_le hr hb.size, hby.kept (fun k hk => hb.block k (by omega))⟩

theorem Rd.more {w : World} {r n m : Nat} (h : Rd w r n) (hm : n ≤ m) : Rd w r m := by
  obtain ⟨a, len, cap, p, h0, h1, hf, hp0, hp1, hl, hr, hby⟩ := h
  exact ⟨a, len, cap, p, h0, h1, hf, hp0, by omega, hl, hr, hby⟩

theorem Rd.lt {w : World} {r n : Nat} (h : Rd w r n) : r < w.heap.size := by
  obtain ⟨a, len, cap, p, h0, h1, hf, hp0, hp1, hl, hr, hby⟩ := h
  exact hr

/-- The place goes on by one. -/
theorem rd_next {w : World} {r n : Nat} {a : Option Addr} {len cap : Nat} {p : Int} (h0 : w.cell? ⟨r, 0, none⟩ = some (.slice a len cap)) (h1 : w.cell? ⟨r, 1, none⟩ = some (.int .i64 p)) (hf : w.frozen? ⟨r, 1, none⟩ = false)
    (hp0 : 0 ≤ p) (hp1 : p ≤ n) (hl : len ≤ 2000) (hr : r < w.heap.size) (hb : Bytes w r a len) : Rd (w.setCell ⟨r, 1, none⟩ (.int .i64 (p + 1))) r (n + 1) := by
  refine ⟨a, len, cap, p + 1, ?_, ?_, ?_, by omega, by omega, hl, by simpa using hr, hb.kept fun k hk => Below.heap_setCell _ _ _ _ (by simp; omega)⟩
  · go_simp
  · go_simp
  · go_simp

theorem Rd.alloc {w : World} {r n : Nat} (h : Rd w r n) (o : Obj) : Rd (w.alloc o) r n :=
  h.kept ((Below.refl _ _).alloc (Nat.succ_le_of_lt h.lt) _)
theorem Rd.setCell {w : World} {r n : Nat} (h : Rd w r n) {p : Addr} (hp : r < p.block) (u : Value) : Rd (w.setCell p u) r n :=
  h.kept ((Below.refl _ _).setCell (Nat.succ_le_of_lt hp) _)
theorem Rd.drewN {w : World} {r n : Nat} (h : Rd w r n) (m : Nat) : Rd (w.drewN m) r n :=
  h.kept ⟨rfl, rfl, rfl, Nat.le_refl _, fun _ _ => rfl⟩

theorem xor_i64 (a b : Nat) (ha : a < 9223372036854775808) (hb : b < 9223372036854775808) : bits .xor .i64 (a : Int) (b : Int) = ((a ^^^ b : Nat) : Int) := by
  have hx : a ^^^ b < 2 ^ 63 := Nat.xor_lt_two_pow (by omega) (by omega)
  have h1 : (BitVec.ofInt 64 (a : Int)).toNat = a := by
    rw [BitVec.ofInt_natCast, BitVec.toNat_ofNat]; exact Nat.mod_eq_of_lt (by omega)
  have h2 : (BitVec.ofInt 64 (b : Int)).toNat = b := by
    rw [BitVec.ofInt_natCast, BitVec.toNat_ofNat]; exact Nat.mod_eq_of_lt (by omega)
  show IntKind.i64.wrap ((BitVec.ofInt 64 (a : Int) ^^^ BitVec.ofInt 64 (b : Int)).toNat : Int) = _
  rw [BitVec.toNat_xor, h1, h2, IntKind.wrap_i64]
  omega

theorem xor_nn (x y : Int) (hx : 0 ≤ x) (hx' : x < 9223372036854775808) (hy : 0 ≤ y) (hy' : y < 9223372036854775808) : 0 ≤ bits .xor .i64 x y := by
  obtain ⟨a, rfl⟩ := Int.eq_ofNat_of_zero_le hx
  obtain ⟨b, rfl⟩ := Int.eq_ofNat_of_zero_le hy
  rw [xor_i64 a b (by omega) (by omega)]
  omega

set_option maxRecDepth 100000 in
set_option maxHeartbeats 1000000 in
theorem pick_low (k : Int) (r n : Nat) (w : World) (hrd : Rd w r n) (hn : n ≤ 1000000000) (hk : k < 1) :
    Calls Tryd.prog 37 #[.pointer (some ⟨r, 0, none⟩), .int .i64 k] w (PickPost k r n w) := by
  obtain ⟨a, len, cap, p, h0, h1, hf, hp0, hp1, hl, hr, hb⟩ := hrd
  have hnx := Lib.hid (rd_next h0 h1 hf hp0 hp1 hl hr hb)
  go_enter Tryd.func37, Tryd.ntmps37
  go_wp2_with fail
  go_ret
  exact ⟨0, rfl, Int.le_refl _, fun h => by omega, hnx.out, (Keep.refl _ _ _).setR _ _⟩

set_option maxRecDepth 100000 in
set_option maxHeartbeats 1000000 in
theorem pick_nil (k : Int) (r n : Nat) (w : World) (a : Option Addr) (cap : Nat) (p : Int) (h0 : w.cell? ⟨r, 0, none⟩ = some (.slice a 0 cap)) (h1 : w.cell? ⟨r, 1, none⟩ = some (.int .i64 p)) (hf : w.frozen? ⟨r, 1, none⟩ = false)
    (hp0 : 0 ≤ p) (hp1 : p ≤ n) (hr : r < w.heap.size) (hb : Bytes w r a 0) (hn : n ≤ 1000000000) (hk : 1 ≤ k) :
    Calls Tryd.prog 37 #[.pointer (some ⟨r, 0, none⟩), .int .i64 k] w (PickPost k r n w) := by
  have hnx := Lib.hid (rd_next h0 h1 hf hp0 hp1 (by omega) hr hb)
  go_enter Tryd.func37, Tryd.ntmps37
  go_wp2_with fail
  go_ret
  exact ⟨0, rfl, Int.le_refl _, fun h => by omega, hnx.out, (Keep.refl _ _ _).setR _ _⟩

set_option maxRecDepth 100000 in
set_option maxHeartbeats 1000000 in
theorem pick_at (k : Int) (r n : Nat) (w : World) (len cap : Nat) (p b off : Nat) (h0 : w.cell? ⟨r, 0, none⟩ = some (.slice (some ⟨b, off, none⟩) len cap)) (h1 : w.cell? ⟨r, 1, none⟩ = some (.int .i64 p)) (hf : w.frozen? ⟨r, 1, none⟩ = false)
    (hp1 : p ≤ n) (hl : len ≤ 2000) (hr : r < w.heap.size) (hb : Bytes w r (some ⟨b, off, none⟩) len) (hn : n ≤ 1000000000) (hbr : b < r) (hk : 1 ≤ k) (hpl : p < len) (z : Int) (hz : w.cell? ⟨b, off + p, none⟩ = some (.int .u8 z)) (hz0 : 0 ≤ z) (hz1 : z ≤ 255) :
    Calls Tryd.prog 37 #[.pointer (some ⟨r, 0, none⟩), .int .i64 k] w (PickPost k r n w) := by
  have hnx := Lib.hid (rd_next (n := n) h0 h1 hf (by omega) (by omega) hl hr hb)
  have hne : ((len : Int) == 0) = false := by simp; omega
  go_enter Tryd.func37, Tryd.ntmps37
  go_wp2_with fail
  go_ret
  exact ⟨z % k, rfl, Int.emod_nonneg _ (by omega), fun h => Int.emod_lt_of_pos _ (by omega), hnx.out, (Keep.refl _ _ _).setR _ _⟩

set_option maxRecDepth 100000 in
set_option maxHeartbeats 1000000 in
theorem pick_past (k : Int) (r n : Nat) (w : World) (len cap : Nat) (p : Int) (b off : Nat) (h0 : w.cell? ⟨r, 0, none⟩ = some (.slice (some ⟨b, off, none⟩) len cap)) (h1 : w.cell? ⟨r, 1, none⟩ = some (.int .i64 p)) (hf : w.frozen? ⟨r, 1, none⟩ = false)
    (hp0 : 0 ≤ p) (hp1 : p ≤ n) (hl : len ≤ 2000) (hr : r < w.heap.size) (hb : Bytes w r (some ⟨b, off, none⟩) len) (hn : n ≤ 1000000000) (hl0 : 0 < len) (hbr : b < r) (hk : 1 ≤ k) (hpl : len ≤ p) (z1 z2 : Int) (hz1 : w.cell? ⟨b, off + (p % len).toNat, none⟩ = some (.int .u8 z1)) (hz2 : w.cell? ⟨b, off + ((p * 7 + 3) % len).toNat, none⟩ = some (.int .u8 z2)) (hz : 0 ≤ z1 ∧ z1 ≤ 255 ∧ 0 ≤ z2 ∧ z2 ≤ 255) :
    Calls Tryd.prog 37 #[.pointer (some ⟨r, 0, none⟩), .int .i64 k] w (PickPost k r n w) := by
  have hnx := Lib.hid (rd_next h0 h1 hf hp0 hp1 hl hr hb)
  have hne : ((len : Int) == 0) = false := by simp; omega
  have c1 : p.tmod len = p % len := Int.tmod_eq_emod_of_nonneg hp0
  have c2 : IntKind.i64.wrap (p * 7) = p * 7 := IntWalk.i64_in _ (by omega)
  have c3 : IntKind.i64.wrap (p * 7 + 3) = p * 7 + 3 := IntWalk.i64_in _ (by omega)
  have c4 : (p * 7 + 3).tmod len = (p * 7 + 3) % len := Int.tmod_eq_emod_of_nonneg (by omega)
  have c5 : 0 ≤ p % len := Int.emod_nonneg _ (by omega)
  have c6 : p % len < len := Int.emod_lt_of_pos _ (by omega)
  have c7 : 0 ≤ (p * 7 + 3) % len := Int.emod_nonneg _ (by omega)
  have c8 : (p * 7 + 3) % len < len := Int.emod_lt_of_pos _ (by omega)
  have c9 : 0 ≤ p / len := Int.ediv_nonneg hp0 (by omega)
  have c10 : p / len ≤ 1000000000 := Int.le_trans (Int.ediv_le_self _ hp0) (by omega)
  have c11 : IntKind.i64.wrap (p / len * 53) = p / len * 53 := IntWalk.i64_in _ (by omega)
  have c12 : IntKind.i64.wrap (z1 * 131 + z2 * 1117 + p * 29 + p / len * 53) = z1 * 131 + z2 * 1117 + p * 29 + p / len * 53 := IntWalk.i64_in _ (by omega)
  have c13 : 0 ≤ z1 * 131 + z2 * 1117 + p * 29 + p / len * 53 := by omega
  have c14 := Lib.hid (xor_nn (z1 * 131 + z2 * 1117 + p * 29 + p / len * 53) ((z1 * 131 + z2 * 1117 + p * 29 + p / len * 53) / 64) c13 (by omega) (by omega) (by omega))
  go_enter Tryd.func37, Tryd.ntmps37
  go_wp2_with fail
  go_quiet (fail)
  go_wp2_with fail
  go_ret
  exact ⟨_, rfl, Int.tmod_nonneg _ c14.out, fun h => Int.tmod_lt_of_pos _ (by omega), hnx.out.drewN _, ((Keep.refl _ _ _).setR _ _).drewN _⟩

/-- PICK: a number from 0 to k-1 (0 if k is less than 1); the place goes on by one; all else is as it was. -/
theorem pick_any (k : Int) (r n : Nat) (w : World) (hrd : Rd w r n) (hn : n ≤ 1000000000) :
    Calls Tryd.prog 37 #[.pointer (some ⟨r, 0, none⟩), .int .i64 k] w (PickPost k r n w) := by
  by_cases hk : k < 1
  · exact pick_low k r n w hrd hn hk
  · obtain ⟨a, len, cap, p, h0, h1, hf, hp0, hp1, hl, hr, hb⟩ := hrd
    have hb' := hb
    rcases hb' with rfl | ⟨b, off, rfl, hbr, hc⟩
    · exact pick_nil k r n w a cap p h0 h1 hf hp0 hp1 hr hb hn (by omega)
    · by_cases hz : len = 0
      · subst hz
        exact pick_nil k r n w _ cap p h0 h1 hf hp0 hp1 hr hb hn (by omega)
      · by_cases hpl : p < len
        · obtain ⟨q, rfl⟩ := Int.eq_ofNat_of_zero_le hp0
          obtain ⟨z, z0, z1, hz⟩ := hc q (by omega)
          exact pick_at k r n w len cap q b off h0 h1 hf (by omega) hl hr hb hn hbr (by omega) (by omega) z hz z0 z1
        · have c5 : 0 ≤ p % len := Int.emod_nonneg _ (by omega)
          have c6 : p % len < len := Int.emod_lt_of_pos _ (by omega)
          have c7 : 0 ≤ (p * 7 + 3) % len := Int.emod_nonneg _ (by omega)
          have c8 : (p * 7 + 3) % len < len := Int.emod_lt_of_pos _ (by omega)
          obtain ⟨z1, a1, a2, hz1⟩ := hc (p % len).toNat (by omega)
          obtain ⟨z2, b1, b2, hz2⟩ := hc ((p * 7 + 3) % len).toNat (by omega)
          exact pick_past k r n w len cap p b off h0 h1 hf hp0 hp1 hl hr hb hn (by omega) hbr (by omega) (by omega) z1 z2 hz1 hz2 ⟨a1, a2, b1, b2⟩
end Go.Proofs.YtigaepbhbfpijaaDoor

/- A reader is opened; codes that came in. -/
namespace Go.Proofs.YtigaepbhbfpijaaDoor
open Go.RowKit
set_option linter.unusedVariables false

/-- A code that came in: its bytes lie in old memory. -/
def CodeIn (w : World) (a : Option Addr) (len cap : Nat) : Prop := len ≤ cap ∧ Bytes w w.heap.size a len

/-- What l6Open leaves. -/
def OpenPost (w : World) (e : Ending) (w' : World) : Prop :=
  ∃ r : Nat, e = .returned (.pointer (some ⟨r, 0, none⟩)) ∧ w.heap.size ≤ r ∧ Rd w' r 0 ∧ Below w.heap.size w w'

theorem rd_new (w : World) (a : Option Addr) (len cap : Nat) (hl : len ≤ 2000) (hb : Bytes w w.heap.size a len) (t : TypeId) : Rd (w.alloc (.cells #[.slice a len cap, .int .i64 0] t)) w.heap.size 0 :=
  ⟨a, len, cap, 0, by go_simp, by go_simp, by go_simp, Int.le_refl _, by omega, hl, by simp, hb.kept (fun k hk => Below.heap_alloc _ _ _ hk)⟩

theorem open_any (a : Option Addr) (len cap : Nat) (w : World) (hc : CodeIn w a len cap) (hcap : cap ≤ maxLen) :
    Calls Tryd.prog 29 #[.slice a len cap] w (OpenPost w) := by
  unfold maxLen at hcap
  obtain ⟨hlc, hb⟩ := hc
  by_cases hl : 2000 < len
  · have hb2 : Bytes w w.heap.size a 2000 := by
      rcases hb with rfl | ⟨b, off, e, hb, hc⟩
      · omega
      · exact .inr ⟨b, off, e, hb, fun i hi => hc i (by omega)⟩
    obtain ⟨b, off, rfl, _⟩ : ∃ b off, a = some ⟨b, off, none⟩ ∧ True := by
      rcases hb with rfl | ⟨b, off, e, hb, hc⟩
      · omega
      · exact ⟨b, off, e, trivial⟩
    have hn := Lib.hid (rd_new w (some ⟨b, off, none⟩) 2000 cap (Nat.le_refl _) hb2 62)
    clear hb hb2
    go_enter Tryd.func29, Tryd.ntmps29
    go_wp2_with fail
    go_ret
    exact ⟨_, rfl, Nat.le_refl _, hn.out, (Below.refl _ _).alloc (Nat.le_refl _) _⟩
  · have hn := Lib.hid (rd_new w a len cap (by omega) hb 62)
    clear hb
    go_enter Tryd.func29, Tryd.ntmps29
    go_wp2_with fail
    go_ret
    exact ⟨_, rfl, Nat.le_refl _, hn.out, (Below.refl _ _).alloc (Nat.le_refl _) _⟩

theorem Bytes.up {w w' : World} {r r' : Nat} {a : Option Addr} {len : Nat} (h : Bytes w r a len) (hr : r ≤ r') (hb : Below r w w') : Bytes w' r' a len := by
  rcases h.kept (w' := w') (fun k hk => hb.block k hk) with h | ⟨b, off, e, hb, hc⟩
  · exact .inl h
  · exact .inr ⟨b, off, e, by omega, hc⟩

/-- A code is a code still where elder memory is as it was. -/
theorem CodeIn.up {w w' : World} {a : Option Addr} {len cap : Nat} (h : CodeIn w a len cap) (hb : Below w.heap.size w w') : CodeIn w' a len cap :=
  ⟨h.1, h.2.up hb.size hb⟩
theorem row_keep {w w' : World} {r base n size : Nat} {t : TypeId} {v : Value} {xs : List Value} (h : w.ownsRow base t size v n xs) (hk : Keep w.heap.size r w w') (hr : r < base) : w'.ownsRow base t size v n xs :=
  h.kept (row := some r) ⟨hk.os, hk.tape, hk.output, hk.size, fun k h1 h2 => hk.block k h1 (fun e => h2 (by rw [e]))⟩ (by
    cases hv : v.ownBlock with
    | none => exact .inl rfl
    | some k =>
      have := (h.lt k hv).1
      exact .inr (by intro e; injection e with e; omega))
end Go.Proofs.YtigaepbhbfpijaaDoor

/- Draws of ids: l91Id, DrawIdValid, DrawIdBefore. -/
namespace Go.Proofs.YtigaepbhbfpijaaDoor
open Go.RowKit
set_option linter.unusedVariables false

/-- What l91Id leaves: some id; the reader up to four places further. -/
def IdPost (r n : Nat) (w : World) (e : Ending) (w' : World) : Prop :=
  ∃ k v : Int, e = .returned (.agg #[.int .i64 k, .int .i64 v]) ∧ (-1 ≤ k ∧ k ≤ 5) ∧ (0 ≤ v ∧ v ≤ 51) ∧ Rd w' r (n + 4) ∧ Keep w.heap.size r w w'

set_option maxRecDepth 100000 in
set_option maxHeartbeats 2000000 in
theorem idd_any (r n : Nat) (w : World) (hrd : Rd w r n) (hn : n ≤ 900000000) :
    Calls Tryd.prog 54 #[.pointer (some ⟨r, 0, none⟩)] w (IdPost r n w) := by
  have hlt := hrd.lt
  have hb1 := Lib.hid hrd
  clear hrd
  go_enter Tryd.func54, Tryd.ntmps54
  go_wp2_with fail
  refine (pick_any 3 r n _ (hb1.out.kept ((Below.refl _ _).alloc (by omega) _)) (by omega)).mono ?_
  rintro e w1 ⟨x1, rfl, a0, a1', hr1', hk1'⟩
  have a1 := a1' (by omega); have hs1 : w.heap.size + 1 ≤ w1.heap.size := by simpa using hk1'.size
  have hk1 := Lib.hid hk1'; have hr1 := Lib.hid hr1'; clear a1' hr1' hk1'
  go_wp2_with fail
  refine (pick_any 4 r (n + 1) _ hr1.out (by omega)).mono ?_
  rintro e w2 ⟨x2, rfl, b0, b1', hr2', hk2'⟩
  have b1 := b1' (by omega); have hs2 := hk2'.size
  have hk2 := Lib.hid hk2'; have hr2 := Lib.hid hr2'; clear b1' hr2' hk2'
  go_wp2_with fail
  refine (pick_any 40 r (n + 2) _ (hr2.out.alloc _) (by omega)).mono ?_
  rintro e w3 ⟨x3, rfl, d0, d1', hr3', hk3'⟩
  have d1 := d1' (by omega); have hs3 : w2.heap.size + 1 ≤ w3.heap.size := by simpa using hk3'.size
  have hrl2 := hr2.out.lt
  have hrl : r < w.heap.size := hlt
  have hAC : w.heap.size < w2.heap.size := by omega
  have A1 : w1.heap[w.heap.size]? = some (.cells #[.int .i64 0, .int .i64 0] 31 (0, 0)) := (hk1.out.block _ (by simp) (by omega)).trans (heap_alloc_new w _)
  have A2 := (hk2.out.block w.heap.size (by omega) (by omega)).trans A1
  have A3 := (hk3'.block w.heap.size (by simp; omega) (by omega)).trans ((Below.heap_alloc w2 _ _ (by omega)).trans A2)
  have C3 := (hk3'.block w2.heap.size (by simp) (by omega)).trans (heap_alloc_new w2 _)
  have K3 : Hid (Keep w.heap.size r w w3) := Lib.hid ((((Keep.refl _ _ _).alloc (Nat.le_refl _) _).trans (hk1.out.mono (by simp))).trans (hk2.out.mono (by omega)) |>.alloc (by omega) _ |>.trans (hk3'.mono (by simp; omega)))
  obtain ⟨a30, a31, f30, f31⟩ := blk2 A3
  obtain ⟨c30, c31, g30, g31⟩ := blk2 C3
  have A3 := Lib.hid A3
  have C3 := Lib.hid C3
  have hr3 := Lib.hid hr3'; clear d1' hr3' hk3' A1 A2 hk1 hk2 hr1 hr2
  by_cases z0 : x3 = 0
  · subst z0
    go_wp2_with fail
    refine (pick_any 3 r (n + 3) _ (hr3.out.alloc _) (by omega)).mono ?_
    rintro e w6 ⟨x6, rfl, y0, y1', hr6, hk6⟩
    have y1 := y1' (by omega)
    have hs6 : w3.heap.size + 1 ≤ w6.heap.size := by simpa using hk6.size
    have A6 := (hk6.block w.heap.size (by simp; omega) (by omega)).trans ((Below.heap_alloc w3 _ _ (by omega)).trans A3.out)
    have C6 := (hk6.block w2.heap.size (by simp; omega) (by omega)).trans ((Below.heap_alloc w3 _ _ (by omega)).trans C3.out)
    have L6 := (hk6.block w3.heap.size (by simp) (by omega)).trans (heap_alloc_new w3 _)
    have K6 := Lib.hid ((K3.out.alloc (by omega) _).trans (hk6.mono (by simp; omega)))
    obtain ⟨a60, a61, f60, f61⟩ := blk2 A6
    obtain ⟨c60, c61, g60, g61⟩ := blk2 C6
    obtain ⟨l60, l61, l62, _, _, _⟩ := blk3 L6
    have hr6 := Lib.hid hr6
    clear y1' hk6 A6 C6 L6 A3 C3 K3 hr3 a30 a31 f30 f31 c30 c31 g30 g31
    rcases (show x6 = 0 ∨ x6 = 1 ∨ x6 = 2 by omega) with rfl | rfl | rfl
    · go_wp2_with fail
      exact bodyPost_ret (v := .agg #[.int .i64 (-1), .int .i64 (1 + x2)]) (by simp [results, Tryd.results54, go_sem, a60, a61]) rfl ⟨-1, 1 + x2, rfl, by omega, by omega, (((hr6.out.setCell hrl2 _).setCell hrl _).setCell hrl _).more (by omega), ((K6.out.setCell (Nat.le_of_lt hAC) _).setCell (Nat.le_refl _) _).setCell (Nat.le_refl _) _⟩
    · go_wp2_with fail
      exact bodyPost_ret (v := .agg #[.int .i64 4, .int .i64 (1 + x2)]) (by simp [results, Tryd.results54, go_sem, a60, a61]) rfl ⟨4, 1 + x2, rfl, by omega, by omega, (((hr6.out.setCell hrl2 _).setCell hrl _).setCell hrl _).more (by omega), ((K6.out.setCell (Nat.le_of_lt hAC) _).setCell (Nat.le_refl _) _).setCell (Nat.le_refl _) _⟩
    · go_wp2_with fail
      exact bodyPost_ret (v := .agg #[.int .i64 5, .int .i64 (1 + x2)]) (by simp [results, Tryd.results54, go_sem, a60, a61]) rfl ⟨5, 1 + x2, rfl, by omega, by omega, (((hr6.out.setCell hrl2 _).setCell hrl _).setCell hrl _).more (by omega), ((K6.out.setCell (Nat.le_of_lt hAC) _).setCell (Nat.le_refl _) _).setCell (Nat.le_refl _) _⟩
  · have z0' : (x3 == 0) = false := by simpa using z0
    clear z0
    by_cases z1 : x3 = 1
    · subst z1
      go_wp2_with fail
      refine (pick_any 3 r (n + 3) _ (hr3.out.alloc _) (by omega)).mono ?_
      rintro e w6 ⟨x6, rfl, y0, y1', hr6, hk6⟩
      have y1 := y1' (by omega)
      have hs6 : w3.heap.size + 1 ≤ w6.heap.size := by simpa using hk6.size
      have A6 := (hk6.block w.heap.size (by simp; omega) (by omega)).trans ((Below.heap_alloc w3 _ _ (by omega)).trans A3.out)
      have C6 := (hk6.block w2.heap.size (by simp; omega) (by omega)).trans ((Below.heap_alloc w3 _ _ (by omega)).trans C3.out)
      have L6 := (hk6.block w3.heap.size (by simp) (by omega)).trans (heap_alloc_new w3 _)
      have K6 := Lib.hid ((K3.out.alloc (by omega) _).trans (hk6.mono (by simp; omega)))
      obtain ⟨a60, a61, f60, f61⟩ := blk2 A6
      obtain ⟨c60, c61, g60, g61⟩ := blk2 C6
      obtain ⟨l60, l61, l62, _, _, _⟩ := blk3 L6
      have hr6 := Lib.hid hr6
      clear y1' hk6 A6 C6 L6 A3 C3 K3 hr3 a30 a31 f30 f31 c30 c31 g30 g31
      rcases (show x6 = 0 ∨ x6 = 1 ∨ x6 = 2 by omega) with rfl | rfl | rfl
      · go_wp2_with fail
        exact bodyPost_ret (v := .agg #[.int .i64 x1, .int .i64 0]) (by simp [results, Tryd.results54, go_sem, a60, a61]) rfl ⟨x1, 0, rfl, by omega, by omega, (((hr6.out.setCell hrl2 _).setCell hrl _).setCell hrl _).more (by omega), ((K6.out.setCell (Nat.le_of_lt hAC) _).setCell (Nat.le_refl _) _).setCell (Nat.le_refl _) _⟩
      · go_wp2_with fail
        exact bodyPost_ret (v := .agg #[.int .i64 x1, .int .i64 50]) (by simp [results, Tryd.results54, go_sem, a60, a61]) rfl ⟨x1, 50, rfl, by omega, by omega, (((hr6.out.setCell hrl2 _).setCell hrl _).setCell hrl _).more (by omega), ((K6.out.setCell (Nat.le_of_lt hAC) _).setCell (Nat.le_refl _) _).setCell (Nat.le_refl _) _⟩
      · go_wp2_with fail
        exact bodyPost_ret (v := .agg #[.int .i64 x1, .int .i64 51]) (by simp [results, Tryd.results54, go_sem, a60, a61]) rfl ⟨x1, 51, rfl, by omega, by omega, (((hr6.out.setCell hrl2 _).setCell hrl _).setCell hrl _).more (by omega), ((K6.out.setCell (Nat.le_of_lt hAC) _).setCell (Nat.le_refl _) _).setCell (Nat.le_refl _) _⟩
    · have z1' : (x3 == 1) = false := by simpa using z1
      clear z1
      go_wp2_with fail
      exact bodyPost_ret (v := .agg #[.int .i64 x1, .int .i64 (1 + x2)]) (by simp [results, Tryd.results54, go_sem, a30, a31]) rfl ⟨x1, 1 + x2, rfl, by omega, by omega, ((hr3.out.setCell hrl _).setCell hrl _).more (by omega), (K3.out.setCell (Nat.le_refl _) _).setCell (Nat.le_refl _) _⟩
end Go.Proofs.YtigaepbhbfpijaaDoor

/- Draws of lists of ids: l91Ids. -/
namespace Go.Proofs.YtigaepbhbfpijaaDoor
open Go.RowKit
set_option linter.unusedVariables false

theorem Row.keep {w w' : World} {B r : Nat} {v : Value} {O : List Pid} (h : Row w B v O) (hk : Keep w.heap.size r w w') (hr : r < B) : Row w' B v O := ⟨row_keep h.1 hk hr, h.2⟩

theorem ids_next {w w1 w2 : World} {r m : Nat} {v v' : Value} {O : List Pid} {x y : Int} {o : Obj} (hrl : r < w.heap.size) (hR : Row w1 w.heap.size v O) (hown : w2.ownsRow w.heap.size 31 2 v' (O.length + 1) (flatP O ++ [.int .i64 x, .int .i64 y]))
    (hg : (w1.alloc o).grownBy w2 (Value.ownBlock v)) (hn : v' ≠ .slice none 0 0) (hrd : Rd w1 r m) (hk : Keep w.heap.size r w w1) : Row w2 w.heap.size v' (O ++ [(x, y)]) ∧ Rd w2 r m ∧ Keep w.heap.size r w w2 := by
  have hR1 : Row (w1.alloc o) w.heap.size v O := hR.up ((Below.refl _ _).alloc (Nat.le_refl _) _)
  have B2 := grown_below hR1 hg (by have := hk.size; simp; omega)
  exact ⟨hR.put hown hn, (hrd.alloc o).kept (B2.mono (by omega)), (hk.alloc hk.size o).trans (Keep.of_below B2)⟩

/-- What l91Ids leaves. -/
def IdsPost (r : Nat) (w : World) (e : Ending) (w' : World) : Prop :=
  ∃ u C, e = .returned u ∧ Ids w' u C ∧ C.length ≤ 13 ∧ Keep w.heap.size r w w'

/-- .. with the reader's place. -/
def IdsPostN (r n : Nat) (w : World) (e : Ending) (w' : World) : Prop :=
  ∃ u C, e = .returned u ∧ Ids w' u C ∧ C.length ≤ 13 ∧ Rd w' r (n + 40) ∧ Keep w.heap.size r w w'

theorem row_ids {w : World} {B g cap : Nat} {O : List Pid} {z : Nat} (h : Row w B (.slice (some ⟨g, 0, none⟩) O.length cap) O) (hz : z ≤ O.length) (hc : O.length ≤ cap) (hl : O.length ≤ 2000000) : Ids w (.slice (some ⟨g, z * 2, none⟩) (O.length - z) (cap - z)) (O.drop z) := by
  obtain ⟨cur, hcur, _, _, _, _, hcs⟩ := h.parts
  refine ⟨_, _, by rw [List.length_drop], by rw [List.length_drop]; omega, by rw [List.length_drop]; omega, .inr ⟨g, z * 2, rfl, lt_of_heap hcur, fun i hi => ?_⟩⟩
  rw [List.length_drop] at hi
  have := flatP_get O (z + i) (by omega)
  have e : (O.drop z).getD i nop = O.getD (z + i) nop := by
    rw [List.getD_eq_getElem?_getD, List.getElem?_drop, ← List.getD_eq_getElem?_getD]
  rw [show z * 2 + i * 2 = (z + i) * 2 by omega, hcs _ (by omega), hcs _ (by omega), e]
  exact this

set_option maxRecDepth 100000 in
set_option maxHeartbeats 4000000 in
theorem ids_anyN (r n : Nat) (w : World) (hrd : Rd w r n) (hn : n ≤ 800000000) :
    Calls Tryd.prog 45 #[.pointer (some ⟨r, 0, none⟩)] w (IdsPostN r n w) := by
  have hrl := hrd.lt
  obtain ⟨i0, hi, hz0, hz1, hz2⟩ := info_parts infoP
  have R0 := Lib.hid (row_new w w.heap.size (Nat.le_refl _))
  have hrd := Lib.hid hrd
  go_enter Tryd.func45, Tryd.ntmps45
  go_wp2_with fail
  refine (pick_any 8 r n _ (hrd.out.alloc _) (by omega)).mono ?_
  rintro e w1 ⟨m, rfl, m0, m1', hr1, hk1⟩
  have m1 := m1' (by omega)
  have s1 : w.heap.size + 1 ≤ w1.heap.size := by simpa using hk1.size
  have K1 := Lib.hid (((Keep.refl w.heap.size r w).alloc (Nat.le_refl _) (.cells #[] 31)).trans (hk1.mono (by simp)))
  have R1 := Lib.hid (R0.out.keep hk1 hrl)
  have hr1 := Lib.hid hr1
  clear hk1 R0 m1' hrd
  go_wp2_with fail
  refine (pick_any 20 r (n + 1) _ hr1.out (by omega)).mono ?_
  rintro e w2 ⟨q, rfl, q0, q1', hr2, hk2⟩
  have s2 := hk2.size
  have K2 := Lib.hid (K1.out.trans (hk2.mono (by omega)))
  have R2 := Lib.hid (R1.out.keep hk2 hrl)
  have hr2 := Lib.hid hr2
  clear hk2 R1 K1 hr1 q1'
  obtain ⟨m, rfl⟩ := Int.eq_ofNat_of_zero_le m0
  by_cases e0 : q = 0
  · subst e0
    go_wp2_with fail
    go_loopw [3, 5] (fun v i wr => ∃ k : Nat, k ≤ 13 ∧ i = .int .i64 k ∧ ∃ O : List Pid, O.length = k ∧ Hid (Row wr w.heap.size v O) ∧ Hid (Rd wr r (n + 2)) ∧ Hid (Keep w.heap.size r w wr)) (fun _ i _ => 13 - (intOf i).toNat)
    case atStart => exact ⟨0, Nat.zero_le _, rfl, [], rfl, R2, hr2, K2⟩
    case round =>
      obtain ⟨k, hk, rfl, O, hL, hR, hr, hK⟩ := hrel
      have hsz := hK.out.size
      clear R2 hr2 K2
      by_cases hlt : k < 13
      · have e5 : (k : Int).tmod 5 = (k : Int) % 5 := Int.tmod_eq_emod_of_nonneg (by omega)
        have e5a : 0 ≤ (k : Int) % 5 := Int.emod_nonneg _ (by omega)
        go_wp2_with (at_builtin; refine wpList_append_own _ rfl _ _ 23 rfl w.heap.size 31 i0 (.agg #[.int .i64 0, .int .i64 0]) 2 16 Tryd.underlying23 hi hz0 hz1 hz2 rfl (by decide) _ _ _ rfl (hR.out.1.alloc _) ⟨wr.heap.size, 0, none⟩ 1 1 [.int .i64 ((k : Int) % 5), .int .i64 (1 + (k : Int))] rfl rfl ?c1 ?c2 ?c3 ?c4 ?c5 ?_)
        case c1 => exact two_cells _ _ _ _ _ (by simp)
        case c2 => intro u hu; simp at hu; rcases hu with rfl | rfl <;> rfl
        case c3 => unfold maxLen; omega
        case c4 => omega
        case c5 => simp; omega
        intro v' w4 hown' hgrow hnil
        have X := ids_next hrl hR.out (by rw [hL]; exact hown') hgrow (fun e => hnil e) hr.out hK.out
        have hR' := Lib.hid X.1
        have hr' := Lib.hid X.2.1
        have hK' := Lib.hid X.2.2
        clear X hown' hgrow hnil hR hr hK
        go_wp2_with fail
        go_roundw
        case rel => exact ⟨k + 1, by omega, by go_num, _, by simp [hL], hR', hr', hK'⟩
        case measure => simp [intOf]; omega
      · obtain rfl : k = 13 := by omega
        obtain ⟨g, cap, rfl, hBg, hgs, hlc, hcm⟩ := hR.out.shape
        unfold maxLen at hcm
        rw [hL] at hlc hR ⊢
        go_wp2_with fail
        refine (pick_any 2 r (n + 2) _ hr.out (by omega)).mono ?_
        rintro e w3 ⟨z, rfl, z0, z1', hr3, hk3⟩
        have z1 := z1' (by omega)
        have K3 := Lib.hid (hK.out.trans (hk3.mono hsz))
        have R3 := hR.out.keep hk3 hrl
        have hI : ∀ z : Nat, z ≤ 13 → Ids w3 (.slice (some ⟨g, z * 2, none⟩) (13 - z) (cap - z)) (O.drop z) := fun z hz => by
          have := row_ids (z := z) (by rw [hL]; exact R3) (by omega) (by omega) (by omega)
          rw [hL] at this; exact this
        have hI := Lib.hid hI
        have b1 : ¬ cap = 0 := by omega
        have b2 : ¬ cap = 1 := by omega
        have hr3 := Lib.hid (hr3.more (show n + 2 + 1 ≤ n + 40 by omega))
        clear hk3 hR hK hr z1' R3
        rcases (show z = 0 ∨ z = 1 by omega) with rfl | rfl
        · go_wp2_with fail
          go_ret
          exact ⟨_, O.drop 0, rfl, by simpa using hI.out 0 (by omega), by rw [List.length_drop]; omega, hr3.out, K3.out⟩
        · go_wp2_with fail
          go_ret
          exact ⟨_, O.drop 1, rfl, by simpa using hI.out 1 (by omega), by rw [List.length_drop]; omega, hr3.out, K3.out⟩
  · have e0' : (q == 0) = false := by simpa using e0
    clear e0
    go_wp2_with fail
    go_loopw [3, 6] (fun v i wr => ∃ k : Nat, k ≤ m ∧ i = .int .i64 k ∧ ∃ O : List Pid, O.length = k ∧ Hid (Row wr w.heap.size v O) ∧ Hid (Rd wr r (n + 2 + 4 * k)) ∧ Hid (Keep w.heap.size r w wr)) (fun _ i _ => m - (intOf i).toNat)
    case atStart => exact ⟨0, Nat.zero_le _, rfl, [], rfl, R2, hr2, K2⟩
    case round =>
      obtain ⟨k, hk, rfl, O, hL, hR, hr, hK⟩ := hrel
      have hsz := hK.out.size
      clear R2 hr2 K2
      by_cases hlt : k < m
      · go_wp2_with fail
        refine (idd_any r (n + 2 + 4 * k) _ hr.out (by omega)).mono ?_
        rintro e w3 ⟨x, y, rfl, _, _, hr3, hk3⟩
        have s3 := hk3.size
        have K3 := Lib.hid (hK.out.trans (hk3.mono hsz))
        have R3 := Lib.hid (hR.out.keep hk3 hrl)
        have hr3 := Lib.hid hr3
        clear hk3 hR hK hr
        go_wp2_with (at_builtin; refine wpList_append_own _ rfl _ _ 23 rfl w.heap.size 31 i0 (.agg #[.int .i64 0, .int .i64 0]) 2 16 Tryd.underlying23 hi hz0 hz1 hz2 rfl (by decide) _ _ _ rfl (R3.out.1.alloc _) ⟨w3.heap.size, 0, none⟩ 1 1 [.int .i64 x, .int .i64 y] rfl rfl ?c1 ?c2 ?c3 ?c4 ?c5 ?_)
        case c1 => exact two_cells _ _ _ _ _ (by simp)
        case c2 => intro u hu; simp at hu; rcases hu with rfl | rfl <;> rfl
        case c3 => unfold maxLen; omega
        case c4 => omega
        case c5 => simp; omega
        intro v' w4 hown' hgrow hnil
        have X := ids_next hrl R3.out (by rw [hL]; exact hown') hgrow (fun e => hnil e) hr3.out K3.out
        have hR' := Lib.hid X.1
        have hr' := Lib.hid X.2.1
        have hK' := Lib.hid X.2.2
        clear X hown' hgrow hnil R3 hr3 K3
        go_wp2_with fail
        go_roundw
        case rel => exact ⟨k + 1, by omega, by go_num, _, by simp [hL], hR', hr', hK'⟩
        case measure => simp [intOf]; omega
      · obtain rfl : k = m := by omega
        obtain ⟨o, ho, hown⟩ := hR.out.own (by omega)
        have hI := Lib.hid hown.read
        have hr3 := Lib.hid (hr.out.more (show n + 2 + 4 * k ≤ n + 40 by omega))
        clear hR hown
        go_wp2_with fail
        go_ret
        exact ⟨_, _, rfl, hI.out, by omega, hr3.out, hK.out⟩

theorem ids_any (r n : Nat) (w : World) (hrd : Rd w r n) (hn : n ≤ 800000000) :
    Calls Tryd.prog 45 #[.pointer (some ⟨r, 0, none⟩)] w (IdsPost r w) :=
  (ids_anyN r n w hrd hn).mono fun e w' ⟨u, C, h1, h2, h3, _, h4⟩ => ⟨u, C, h1, h2, h3, h4⟩
end Go.Proofs.YtigaepbhbfpijaaDoor

/- Draws of sorted ids: l91Deps. -/
namespace Go.Proofs.YtigaepbhbfpijaaDoor
open Go.RowKit
set_option linter.unusedVariables false

theorem OwnP.stay {w w' : World} {b r : Nat} {v : Value} {C : List Pid} (h : OwnP w b v C) (hk : Keep w.heap.size r w w') (hr : b ≠ r) : OwnP w' b v C := h.same (hk.block b h.lt hr)

/-- What l91Deps leaves. -/
def DepPost (r n : Nat) (w : World) (e : Ending) (w' : World) : Prop :=
  ∃ b u C, w.heap.size ≤ b ∧ e = .returned u ∧ OwnP w' b u C ∧ C.length ≤ 13 ∧ Rd w' r (n + 40) ∧ Keep w.heap.size r w w'

set_option maxRecDepth 100000 in
set_option maxHeartbeats 2000000 in
theorem ddep_any (r n : Nat) (w : World) (hrd : Rd w r n) (hn : n ≤ 800000000) :
    Calls Tryd.prog 30 #[.pointer (some ⟨r, 0, none⟩)] w (DepPost r n w) := by
  have hrl := hrd.lt
  have hrd := Lib.hid hrd
  go_enter Tryd.func30, Tryd.ntmps30
  go_wp2_with fail
  refine (ids_anyN r n _ hrd.out hn).mono ?_
  rintro e w1 ⟨u, C, rfl, hI, hl, hr1, hk1⟩
  have s1 := hk1.size
  have hI := Lib.hid hI
  have hr1 := Lib.hid hr1
  have K1 := Lib.hid hk1
  clear hk1 hrd
  go_wp2_with fail
  refine (ssort_any u C _ hI.out (by omega)).mono ?_
  rintro e w2 ⟨b, v, hb, rfl, hO, hb2⟩
  have s2 := hb2.size
  have hr2 := Lib.hid (hr1.out.kept (hb2.mono (Nat.succ_le_of_lt hr1.out.lt)))
  have K2 := Lib.hid (K1.out.trans (Keep.of_below (hb2.mono s1)))
  have hL := sortR_len C
  have hO := Lib.hid hO
  clear hb2 K1 hr1 hI
  generalize sortR C = R at hO hL ⊢
  obtain ⟨S, f⟩ := R
  dsimp only at hO hL ⊢
  cases f
  · have A3 := heap_alloc_new w2 (.cells #[.int .i64 1, .int .i64 1, .int .i64 0, .int .i64 1] 31)
    have A3 := Lib.hid A3
    have hr3 := Lib.hid (hr2.out.alloc (.cells #[.int .i64 1, .int .i64 1, .int .i64 0, .int .i64 1] 31))
    have K3 := Lib.hid (K2.out.alloc (by omega) (.cells #[.int .i64 1, .int .i64 1, .int .i64 0, .int .i64 1] 31))
    have hI3 : Hid (OwnP (w2.alloc (.cells #[.int .i64 1, .int .i64 1, .int .i64 0, .int .i64 1] 31)) w2.heap.size (.slice (some ⟨w2.heap.size, 0, none⟩) 2 2) [(1, 1), (0, 1)]) := Lib.hid ⟨2, _, _, rfl, A3.out, by simp, by simp, fun i hi => by
      have hi' : i < 2 := by simpa using hi
      rcases (show i = 0 ∨ i = 1 by omega) with rfl | rfl <;> exact ⟨rfl, rfl⟩⟩
    go_wp2_with fail
    go_ret
    exact ⟨w2.heap.size, _, _, by omega, rfl, hI3.out, by simp, hr3.out, K3.out⟩
  · go_wp2_with fail
    go_ret
    exact ⟨b, _, _, by omega, rfl, hO.out, by omega, hr2.out, K2.out⟩
end Go.Proofs.YtigaepbhbfpijaaDoor

/- DrawDepsWithin. -/
namespace Go.Proofs.YtigaepbhbfpijaaDoor
open Go.RowKit
set_option linter.unusedVariables false

/-- What a draw of two lists leaves. -/
def DtPost (w : World) (e : Ending) (w' : World) : Prop := ∃ u v A B, e = .returned (.tuple #[u, v]) ∧ Ids w' u A ∧ Ids w' v B ∧ A.length ≤ 13 ∧ B.length ≤ 13 ∧ Below w.heap.size w w'

theorem dep_next {w w1 w2 : World} {r m : Nat} {v v' : Value} {O : List Pid} {x y : Int} {o : Obj} (hrl : r < w.heap.size) (hR : Row w1 w.heap.size v O) (hown : w2.ownsRow w.heap.size 31 2 v' (O.length + 1) (flatP O ++ [.int .i64 x, .int .i64 y]))
    (hg : (w1.alloc o).grownBy w2 (Value.ownBlock v)) (hn : v' ≠ .slice none 0 0) (hrd : Rd w1 r m) (hk : Keep w.heap.size r w w1) : Row w2 w.heap.size v' (O ++ [(x, y)]) ∧ Rd w2 r m ∧ Keep w.heap.size r w w2 := ids_next hrl hR hown hg hn hrd hk

set_option maxRecDepth 100000 in
set_option maxHeartbeats 4000000 in
theorem dwin_any (a : Option Addr) (len cap : Nat) (w : World) (hc : CodeIn w a len cap) (hcap : cap ≤ maxLen) :
    Calls Tryd.prog 18 #[.slice a len cap] w (DtPost w) := by
  obtain ⟨i0, hi, hz0, hz1, hz2⟩ := info_parts infoP
  have hc := Lib.hid hc
  have hcap := Lib.hid hcap
  go_enter Tryd.func18, Tryd.ntmps18
  go_wp2_with fail
  refine (open_any a len cap _ hc.out hcap.out).mono ?_
  rintro e w1 ⟨r, rfl, hr0, hr', hb'⟩
  have s1 := hb'.size
  have D1 : Hid (Below w.heap.size w w1) := Lib.hid hb'
  have hr1 := Lib.hid hr'
  have hrl1 := hr'.lt
  clear hr' hb' hc hcap
  go_wp2_with fail
  refine (ddep_any r 0 _ hr1.out (by omega)).mono ?_
  rintro e w2 ⟨bb, u, C, hbb, rfl, hO, hCl, hr2, hk2⟩
  have s2 := hk2.size
  have D2 : Hid (Below w.heap.size w w2) := Lib.hid (D1.out.trans ((hk2.mono s1).below hr0))
  have hO := Lib.hid hO
  have hr2 := Lib.hid hr2
  have hrl2 : r < w2.heap.size := by omega
  obtain ⟨cc, hu, hcc⟩ := hO.out.shape
  have hbl := hO.out.lt
  obtain ⟨n, hn⟩ : ∃ n, Hid (C.length = n) := ⟨_, Lib.hid rfl⟩
  rw [hn.out] at hu hcc hCl
  subst hu
  have R0 := Lib.hid (row_new w2 w2.heap.size (Nat.le_refl _))
  have hr3 := Lib.hid (hr2.out.alloc (.cells #[] 31))
  have K3 := Lib.hid ((Keep.refl w2.heap.size r w2).alloc (Nat.le_refl _) (.cells #[] 31))
  clear hk2 D1 hr1 hr2
  go_wp2_with fail
  go_loopw [6, 7] (fun v i wr => ∃ k : Nat, k ≤ n ∧ i = .int .i64 k ∧ ∃ O : List Pid, O.length ≤ k ∧ Hid (Row wr w2.heap.size v O) ∧ Hid (Rd wr r (40 + k)) ∧ Hid (Keep w2.heap.size r w2 wr)) (fun _ i _ => n - (intOf i).toNat)
  case atStart => exact ⟨0, Nat.zero_le _, rfl, [], Nat.le_refl _, R0, Lib.hid (by simpa using hr3.out), K3⟩
  case round =>
    obtain ⟨k, hk, rfl, O, hL, hR, hr, hK⟩ := hrel
    have hsz := hK.out.size
    clear R0 hr3 K3
    by_cases hlt : k < n
    · go_wp2_with fail
      refine (pick_any 2 r (40 + k) _ hr.out (by omega)).mono ?_
      rintro e w3 ⟨x, rfl, x0, x1, hr3, hk3⟩
      have x2 := x1 (by omega)
      have s3 := hk3.size
      have K3 := Lib.hid (hK.out.trans (hk3.mono hsz))
      have R3 := Lib.hid (hR.out.keep hk3 hrl2)
      have hr3 := Lib.hid hr3
      obtain ⟨q0, q1⟩ := (hO.out.stay K3.out (by omega)).cell k (by rw [hn.out]; exact hlt)
      generalize C.getD k nop = c at q0 q1
      obtain ⟨p, t⟩ := c
      dsimp only at q0 q1
      clear hk3 hR hK hr x1
      rcases (show x = 0 ∨ x = 1 by omega) with rfl | rfl
      · go_wp2_with (at_builtin; refine wpList_append_own _ rfl _ _ 23 rfl w2.heap.size 31 i0 (.agg #[.int .i64 0, .int .i64 0]) 2 16 Tryd.underlying23 hi hz0 hz1 hz2 rfl (by decide) _ _ _ rfl (R3.out.1.alloc _) ⟨w3.heap.size, 0, none⟩ 1 1 [.int .i64 p, .int .i64 t] rfl rfl ?c1 ?c2 ?c3 ?c4 ?c5 ?_)
        case c1 => exact two_cells _ _ _ _ _ (by simp)
        case c2 => intro u hu; simp at hu; rcases hu with rfl | rfl <;> rfl
        case c3 => unfold maxLen; omega
        case c4 => omega
        case c5 => simp; omega
        intro v' w4 hown' hgrow hnil
        have X := ids_next hrl2 R3.out hown' hgrow (fun e => hnil e) hr3.out K3.out
        have hR' := Lib.hid X.1
        have hr' := Lib.hid X.2.1
        have hK' := Lib.hid X.2.2
        clear X hown' hgrow hnil R3 hr3 K3 q0 q1
        go_wp2_with fail
        go_roundw
        case rel => exact ⟨k + 1, by omega, by go_num, _, by simp; omega, hR', hr', hK'⟩
        case measure => simp [intOf]; omega
      · clear q0 q1
        go_wp2_with fail
        go_roundw
        case rel => exact ⟨k + 1, by omega, by go_num, O, by omega, R3, hr3, K3⟩
        case measure => simp [intOf]; omega
    · obtain rfl : k = n := by omega
      go_wp2_with fail
      refine (pick_any 3 r (40 + k) _ hr.out (by omega)).mono ?_
      rintro e w3 ⟨x, rfl, x0, x1, hr3, hk3⟩
      have s3 := hk3.size
      have K3 := Lib.hid (hK.out.trans (hk3.mono hsz))
      have R3 := Lib.hid (hR.out.keep hk3 hrl2)
      have O3 := Lib.hid (hO.out.stay K3.out (by omega))
      have hr3 := Lib.hid hr3
      clear hk3 hR hK hr x1 hO
      by_cases e0 : x = 0
      · subst e0
        clear R3
        go_wp2_with fail
        refine (ddep_any r (40 + k + 1) _ hr3.out (by omega)).mono ?_
        rintro e w4 ⟨bb', u', C', hbb', rfl, hO', hCl', hr4, hk4⟩
        have D4 := Lib.hid (D2.out.trans (((K3.out.trans (hk4.mono (by omega))).mono D2.out.size).below hr0))
        have O4 := Lib.hid (O3.out.stay hk4 (by omega)).read
        have hO' := Lib.hid hO'.read
        clear hk4 K3 hr4 hr3 O3
        go_wp2_with fail
        go_ret2
        exact ⟨_, _, C', C, rfl, hO'.out, O4.out, hCl', by rw [hn.out]; exact hCl, D4.out⟩
      · have e0' : (x == 0) = false := by simpa using e0
        have D4 := Lib.hid (D2.out.trans ((K3.out.mono D2.out.size).below hr0))
        obtain ⟨o, ho, hown⟩ := R3.out.own (by omega)
        have hI := Lib.hid hown.read
        have O4 := Lib.hid O3.out.read
        clear R3 hown O3 K3 e0 hr3
        go_wp2_with fail
        go_ret2
        exact ⟨_, _, O, C, rfl, hI.out, O4.out, by omega, by rw [hn.out]; exact hCl, D4.out⟩
end Go.Proofs.YtigaepbhbfpijaaDoor

/- DrawDepsJoin. -/
namespace Go.Proofs.YtigaepbhbfpijaaDoor
open Go.RowKit
set_option linter.unusedVariables false

set_option maxRecDepth 100000 in
set_option maxHeartbeats 2000000 in
theorem ddj_any (a : Option Addr) (len cap : Nat) (w : World) (hc : CodeIn w a len cap) (hcap : cap ≤ maxLen) :
    Calls Tryd.prog 11 #[.slice a len cap] w (DtPost w) := by
  have hc := Lib.hid hc
  have hcap := Lib.hid hcap
  go_enter Tryd.func11, Tryd.ntmps11
  go_wp2_with fail
  refine (open_any a len cap _ hc.out hcap.out).mono ?_
  rintro e w1 ⟨r, rfl, hr0, hr', hb'⟩
  have s1 := hb'.size
  have D1 : Hid (Below w.heap.size w w1) := Lib.hid hb'
  have hr1 := Lib.hid hr'
  clear hr' hb' hc hcap
  go_wp2_with fail
  refine (ddep_any r 0 _ hr1.out (by omega)).mono ?_
  rintro e w2 ⟨b, u, C, hb, rfl, hO, hCl, hr2, hk2⟩
  have s2 := hk2.size
  have hbr : b ≠ r := by have := hr1.out.lt; omega
  have D2 : Hid (Below w.heap.size w w2) := Lib.hid (D1.out.trans ((hk2.mono s1).below hr0))
  have hO := Lib.hid hO
  have hr2 := Lib.hid hr2
  clear hk2 D1 hr1
  go_wp2_with fail
  refine (ddep_any r (0 + 40) _ hr2.out (by omega)).mono ?_
  rintro e w3 ⟨b', u', C', hb', rfl, hO', hCl', hr3, hk3⟩
  have D3 : Hid (Below w.heap.size w w3) := Lib.hid (D2.out.trans ((hk3.mono D2.out.size).below hr0))
  have hI := Lib.hid (hO.out.stay hk3 hbr).read
  have hI' := Lib.hid hO'.read
  clear hk3 D2 hr2 hr3 hO hO'
  go_wp2_with fail
  go_ret2
  exact ⟨u, u', C, C', rfl, hI.out, hI'.out, hCl, hCl', D3.out⟩
end Go.Proofs.YtigaepbhbfpijaaDoor
