/- Texts laid together. -/
import Derived.Test.YtiolhjjkjmepcaaGreatDoorC01
import Derived.Test.YtiolhjjkjmepcaaGreatDoorC10
import Derived.Deep.RegionWith
import Derived.Test.YtiolhjjkjmepcaaGreatDoorC32
/- The laws' copies of ids. -/
namespace Go.Proofs.YtiolhjjkjmepcaaGreatDoor
open Go.RowKit
set_option linter.unusedVariables false

theorem toId_any (r n : Int) (w : World) :
    Calls Tryz.prog 51 #[.agg #[.int .i64 r, .int .i64 n]] w fun e w' => e = .returned (.agg #[.int .i64 r, .int .i64 n]) ∧ Below w.heap.size w w' := by
  go_enter Tryz.func51, Tryz.ntmps51
  go_wp2_with fail
  exact bodyPost_ret (v := .agg #[.int .i64 r, .int .i64 n]) (by simp [results, Tryz.results51, go_sem]) rfl ⟨rfl, by repeat (first | with_reducible exact Below.refl _ _ | with_reducible refine Below.setCell ?_ (by first | (simp; done) | (simp; omega)) _ | with_reducible refine Below.alloc ?_ (by first | (simp; done) | (simp; omega)) _)⟩

end Go.Proofs.YtiolhjjkjmepcaaGreatDoor

/- The laws' copies, comparisons and marks of slices of ids. -/
namespace Go.Proofs.YtiolhjjkjmepcaaGreatDoor
open Go.RowKit
set_option linter.unusedVariables false

/-- What toIdS leaves: a copy in a block of its own. -/
def CopPPost (C : List Pid) (w : World) (e : Ending) (w' : World) : Prop :=
  ∃ b u, w.heap.size ≤ b ∧ e = .returned u ∧ OwnP w' b u C ∧ Below w.heap.size w w'

set_option maxRecDepth 100000 in
set_option maxHeartbeats 2000000 in
theorem toP_at (b off ca : Nat) (C : List Pid) (w : World) (hb : b < w.heap.size) (hm : C.length ≤ 2000000) (h : ∀ i, i < C.length → w.cell? ⟨b, off + i * 2, none⟩ = some (.int .i64 (C.getD i nop).1) ∧ w.cell? ⟨b, off + i * 2 + 1, none⟩ = some (.int .i64 (C.getD i nop).2)) :
    Calls Tryz.prog 53 #[.slice (some ⟨b, off, none⟩) C.length ca] w (CopPPost C w) := by
  have hmk := made_ids C.length hm
  have h := Lib.hid h
  have hO := Lib.hid (ownP_made w C.length hm 25)
  obtain ⟨n, hn⟩ : ∃ n, Hid (C.length = n) := ⟨_, Lib.hid rfl⟩
  rw [hn.out] at hmk hm hO ⊢
  go_enter Tryz.func53, Tryz.ntmps53
  go_wp2_with fail
  clear hmk
  go_loopw [4] (fun i wr => ∃ k : Nat, k ≤ n ∧ i = .int .i64 k ∧ ∃ M : List Pid, Hid (M.length = n ∧ (∀ j, j < k → M.getD j nop = C.getD j nop) ∧ OwnP wr w.heap.size (.slice (some ⟨w.heap.size, 0, none⟩) n n) M) ∧ Below w.heap.size w wr) (fun i _ => n - (intOf i).toNat)
  case atStart => exact ⟨0, Nat.zero_le _, rfl, List.replicate n nop, Lib.hid ⟨by simp, fun j hj => absurd hj (Nat.not_lt_zero _), hO.out⟩, (Below.refl _ _).alloc (Nat.le_refl _) _⟩
  case round =>
    obtain ⟨k, hk, rfl, M, hM, hnx⟩ := hrel
    clear hO
    by_cases hlt : k < n
    · obtain ⟨h0, h1⟩ := h.out k (by rw [hn.out]; exact hlt)
      have q0 := (hnx.cell (p := ⟨b, off + k * 2, none⟩) hb).trans h0
      have q1 := (hnx.cell (p := ⟨b, off + k * 2 + 1, none⟩) hb).trans h1
      clear h0 h1
      obtain ⟨c, hc⟩ : ∃ c, Hid (C.getD k nop = c) := ⟨_, Lib.hid rfl⟩
      rw [hc.out] at q0 q1
      obtain ⟨x, y⟩ := c
      dsimp only at q0 q1
      have hs := Lib.hid hM.out.2.2.lt
      have hnx := Lib.hid hnx
      go_wp2_with fail
      refine (toId_any x y _).mono ?_
      rintro e w1 ⟨rfl, B⟩
      have hO1 := hM.out.2.2.up B hs.out
      obtain ⟨d0, d1⟩ := hO1.cell k (by rw [hM.out.1]; exact hlt)
      have f0 := hO1.free (k * 2)
      have f1 := hO1.free (k * 2 + 1)
      have hs1 := hO1.lt
      have R := Lib.hid (hO1.set k (by rw [hM.out.1]; exact hlt) (x, y))
      have R2 := Lib.hid (id_up (C := C) (by rw [hM.out.1]; exact hlt) hM.out.2.1)
      have hl := Lib.hid hM.out.1
      have D1 := Lib.hid (hnx.out.trans (B.mono hnx.out.size))
      generalize M.getD k nop = y0 at d0 d1
      clear hM h hO1 B hnx q0 q1 hs
      go_wp2_with fail
      go_roundw
      case rel => exact ⟨k + 1, by omega, by go_num, M.set k (x, y), Lib.hid ⟨by rw [List.length_set]; exact hl.out, by rw [← hc.out]; exact R2.out, R.out⟩, (D1.out.setCell (by simp) _).setCell (by simp) _⟩
      case measure => simp [intOf]; omega
    · obtain rfl : k = n := by omega
      have e : Hid (M = C) := Lib.hid (id_same (hM.out.1.trans hn.out.symm) (fun j hj => hM.out.2.1 j (by rw [← hM.out.1]; exact hj)))
      have hnx := Lib.hid hnx
      clear h
      go_wp2_with fail
      go_ret
      exact ⟨w.heap.size, _, Nat.le_refl _, rfl, by rw [← e.out]; exact hM.out.2.2, hnx.out⟩

theorem toP_nil (a : Option Addr) (ca : Nat) (w : World) :
    Calls Tryz.prog 53 #[.slice a 0 ca] w (CopPPost [] w) := by
  have hmk : ∀ w : World, (Instr.makeSlice 28 (.int .i64 0) (.int .i64 0)).run Tryz.prog w = .ok (.slice (some ⟨w.heap.size, 0, none⟩) 0 0) (w.alloc (.cells (madeCells #[.int .i64 0, .int .i64 0] (0 * 2)) 25)) := made_ids 0 (by omega)
  have hO := Lib.hid (ownP_made w 0 (by omega) 25)
  go_enter Tryz.func53, Tryz.ntmps53
  go_wp2_with fail
  refine wp_loop_rounds 1 ?_
  rw [rounds_succ]
  go_wp2_with fail
  go_ret
  exact ⟨w.heap.size, _, Nat.le_refl _, rfl, hO.out, (Below.refl _ _).alloc (Nat.le_refl _) _⟩

/-- A COPY. -/
theorem toP_any (u : Value) (C : List Pid) (w : World) (h : Ids w u C) :
    Calls Tryz.prog 53 #[u] w (CopPPost C w) := by
  obtain ⟨a, cap, rfl, h1, h2, h3⟩ := h
  rcases h3 with h3 | ⟨b, off, rfl, h4, h5⟩
  · obtain rfl : C = [] := List.length_eq_zero_iff.1 h3
    exact toP_nil a cap w
  · exact toP_at b off cap C w h4 h2 h5

theorem eqP1 (x y : Int) (w : World) :
    Calls Tryz.prog 54 #[.agg #[.int .i64 x, .int .i64 y], .agg #[.int .i64 x, .int .i64 y]] w fun e w' => e = .returned (.bool true) ∧ Below w.heap.size w w' := by
  go_enter Tryz.func54, Tryz.ntmps54
  go_wp2_with fail
  go_ret
  exact ⟨rfl, ((Below.refl _ _).alloc (Nat.le_refl _) _).alloc (by simp) _⟩

set_option maxRecDepth 100000 in
set_option maxHeartbeats 2000000 in
theorem eqP_at (a b oa ob ca cb : Nat) (C : List Pid) (w : World) (hm : C.length ≤ 2000000) (ha : a < w.heap.size) (hb : b < w.heap.size)
    (hA : ∀ i, i < C.length → w.cell? ⟨a, oa + i * 2, none⟩ = some (.int .i64 (C.getD i nop).1) ∧ w.cell? ⟨a, oa + i * 2 + 1, none⟩ = some (.int .i64 (C.getD i nop).2))
    (hB : ∀ i, i < C.length → w.cell? ⟨b, ob + i * 2, none⟩ = some (.int .i64 (C.getD i nop).1) ∧ w.cell? ⟨b, ob + i * 2 + 1, none⟩ = some (.int .i64 (C.getD i nop).2)) :
    Calls Tryz.prog 56 #[.slice (some ⟨a, oa, none⟩) C.length ca, .slice (some ⟨b, ob, none⟩) C.length cb] w fun e w' => e = .returned (.bool true) ∧ Below w.heap.size w w' := by
  have hA := Lib.hid hA
  have hB := Lib.hid hB
  obtain ⟨n, hn⟩ : ∃ n, Hid (C.length = n) := ⟨_, Lib.hid rfl⟩
  rw [hn.out] at hm ⊢
  go_enter Tryz.func56, Tryz.ntmps56
  go_wp2_with fail
  go_loopw [5] (fun i wr => ∃ k : Nat, k ≤ n ∧ i = .int .i64 k ∧ Below w.heap.size w wr) (fun i _ => n - (intOf i).toNat)
  case atStart => exact ⟨0, Nat.zero_le _, rfl, Below.refl _ _⟩
  case round =>
    obtain ⟨k, hk, rfl, hnx⟩ := hrel
    by_cases hlt : k < n
    · obtain ⟨h0, h1⟩ := hA.out k (by rw [hn.out]; exact hlt)
      have q0 := (hnx.cell (p := ⟨a, oa + k * 2, none⟩) ha).trans h0
      have q1 := (hnx.cell (p := ⟨a, oa + k * 2 + 1, none⟩) ha).trans h1
      clear h0 h1
      obtain ⟨h0, h1⟩ := hB.out k (by rw [hn.out]; exact hlt)
      have r0 := (hnx.cell (p := ⟨b, ob + k * 2, none⟩) hb).trans h0
      have r1 := (hnx.cell (p := ⟨b, ob + k * 2 + 1, none⟩) hb).trans h1
      clear h0 h1 hA hB
      generalize C.getD k nop = c at q0 q1 r0 r1
      obtain ⟨x, y⟩ := c
      dsimp only at q0 q1 r0 r1
      have hnx := Lib.hid hnx
      go_wp2_with fail
      go_region_with (first | (go_at_call 54; refine (eqP1 x y _).mono ?_; rintro e w1 ⟨rfl, B⟩; have D1 := Lib.hid (bstep (Below.drew hnx.out) B); clear B))
      all_goals
        go_wp2_with fail
        go_roundw
        case rel => exact ⟨k + 1, by omega, by go_num, D1.out⟩
        case measure => simp [intOf]; omega
    · obtain rfl : k = n := by omega
      have hnx := Lib.hid hnx
      clear hA hB
      go_wp2_with fail
      go_ret
      exact ⟨rfl, hnx.out⟩

theorem eqP_nil (a b : Option Addr) (ca cb : Nat) (w : World) :
    Calls Tryz.prog 56 #[.slice a 0 ca, .slice b 0 cb] w fun e w' => e = .returned (.bool true) ∧ Below w.heap.size w w' := by
  go_enter Tryz.func56, Tryz.ntmps56
  go_wp2_with fail
  refine wp_loop_rounds 1 ?_
  rw [rounds_succ]
  go_wp2_with fail
  go_ret
  exact ⟨rfl, Below.refl _ _⟩

theorem eqP_any (u x : Value) (C : List Pid) (w : World) (h : Ids w u C) (g : Ids w x C) :
    Calls Tryz.prog 56 #[u, x] w fun e w' => e = .returned (.bool true) ∧ Below w.heap.size w w' := by
  obtain ⟨a, cap, rfl, h1, h2, h3⟩ := h
  obtain ⟨b, cap', rfl, g1, g2, g3⟩ := g
  rcases h3 with h3 | ⟨a, off, rfl, h4, h5⟩
  · obtain rfl : C = [] := List.length_eq_zero_iff.1 h3
    exact eqP_nil a b cap cap' w
  · rcases g3 with g3 | ⟨b, off', rfl, g4, g5⟩
    · obtain rfl : C = [] := List.length_eq_zero_iff.1 g3
      exact eqP_nil _ b cap cap' w
    · exact eqP_at a b off off' cap cap' C w h2 h4 g4 h5 g5
end Go.Proofs.YtiolhjjkjmepcaaGreatDoor

/- The laws' comparison of entries. -/
namespace Go.Proofs.YtiolhjjkjmepcaaGreatDoor
open Go.RowKit
set_option linter.unusedVariables false

theorem holdE {w : World} {o x : Obj} {b : Nat} (h : w.heap[b]? = some x) : (w.alloc o).heap[b]? = some x := (Below.heap_alloc _ _ _ (lt_of_heap h)).trans h

theorem eqCe (k key v : Int) (w : World) : Calls Tryz.prog 55 #[.agg #[.int .i64 k, .int .i64 key, .int .i64 v], .agg #[.int .i64 k, .int .i64 key, .int .i64 v]] w fun e w' => e = .returned (.bool true) ∧ Below w.heap.size w w' := by
  go_enter Tryz.func55, Tryz.ntmps55
  go_wp2_with fail
  go_ret
  exact ⟨rfl, ((Below.refl _ _).alloc (Nat.le_refl _) _).alloc (by simp) _⟩

set_option maxRecDepth 100000 in
set_option maxHeartbeats 2000000 in
/-- An entry is like itself. -/
theorem eqE_any (x : En) (u v' : Value) (w : World) (hu : Ids w u x.deps) (hv : Ids w v' x.deps) :
    Calls Tryz.prog 29 #[env x u, env x v'] w fun e w' => e = .returned (.bool true) ∧ Below w.heap.size w w' := by
  have sc := fun W (hb : Below w.heap.size w W) => eqP_any u v' x.deps W (hu.up hb (Nat.le_refl _)) (hv.up hb (Nat.le_refl _))
  obtain ⟨ua, uc, rfl, _⟩ := hu
  obtain ⟨va, vc, rfl, _⟩ := hv
  obtain ⟨⟨p, r⟩, bal, st, k, key, v, s, C⟩ := x
  dsimp only [env] at sc ⊢
  obtain ⟨n, hn⟩ : ∃ n, Hid (C.length = n) := ⟨_, Lib.hid rfl⟩
  rw [hn.out] at sc ⊢
  have D0 := Lib.hid (((Below.refl w.heap.size w).alloc (Nat.le_refl _) (.cells #[.int .i64 p, .int .i64 r, .int .i64 bal, .int .i64 st, .int .i64 k, .int .i64 key, .int .i64 v, .int .i64 s, .slice ua n uc] 30)).alloc (by simp) (.cells #[.int .i64 p, .int .i64 r, .int .i64 bal, .int .i64 st, .int .i64 k, .int .i64 key, .int .i64 v, .int .i64 s, .slice va n vc] 30))
  go_enter Tryz.func29, Tryz.ntmps29
  go_wp2_with fail
  refine (eqP1 p r _).mono ?_
  rintro e w1 ⟨rfl, B⟩
  have D1 := Lib.hid (D0.out.trans (B.mono D0.out.size))
  have A1 := Lib.hid ((B.block w.heap.size (by simp; omega)).trans (holdE (heap_alloc_new w (.cells #[.int .i64 p, .int .i64 r, .int .i64 bal, .int .i64 st, .int .i64 k, .int .i64 key, .int .i64 v, .int .i64 s, .slice ua n uc] 30))))
  have O1 := Lib.hid ((B.block (w.heap.size + 1) (by simp)).trans (heap_alloc_at _ (.cells #[.int .i64 p, .int .i64 r, .int .i64 bal, .int .i64 st, .int .i64 k, .int .i64 key, .int .i64 v, .int .i64 s, .slice va n vc] 30) _ (by simp)))
  have hs1 := lt_of_heap O1.out
  obtain ⟨a0, a1, a2, a3, a4, a5, a6, a7, a8⟩ := nine_cells A1.out
  obtain ⟨o0, o1, o2, o3, o4, o5, o6, o7, o8⟩ := nine_cells O1.out
  clear D0 B
  go_wp2_with fail
  refine (eqCe k key v _).mono ?_
  rintro e w2 ⟨rfl, B⟩
  have D2 := Lib.hid (bstep D1.out B)
  have A2 := Lib.hid (bblk B (by omega) A1.out)
  have O2 := Lib.hid (bblk B (by omega) O1.out)
  clear D1 B A1 O1 a0 a1 a2 a3 a4 a5 a6 a7 a8 o0 o1 o2 o3 o4 o5 o6 o7 o8
  obtain ⟨a0, a1, a2, a3, a4, a5, a6, a7, a8⟩ := nine_cells A2.out
  obtain ⟨o0, o1, o2, o3, o4, o5, o6, o7, o8⟩ := nine_cells O2.out
  go_wp2_with fail
  refine (sc _ D2.out).mono ?_
  rintro e w3 ⟨rfl, B⟩
  have D3 := Lib.hid (bstep D2.out B)
  clear sc B D2
  go_wp2_with fail
  go_ret
  exact ⟨rfl, D3.out⟩
end Go.Proofs.YtiolhjjkjmepcaaGreatDoor

/- The laws' comparison of slices of entries. -/
namespace Go.Proofs.YtiolhjjkjmepcaaGreatDoor
open Go.RowKit
set_option linter.unusedVariables false

set_option maxRecDepth 100000 in
set_option maxHeartbeats 4000000 in
theorem eqEs_at (b off ca b' off' ca' : Nat) (E : List En) (U U' : Nat → Value) (w : World) (hm : E.length ≤ 2000000) (h : EnsAt w b off E U) (h' : EnsAt w b' off' E U') :
    Calls Tryz.prog 28 #[.slice (some ⟨b, off, none⟩) E.length ca, .slice (some ⟨b', off', none⟩) E.length ca'] w fun e w' => e = .returned (.bool true) ∧ Below w.heap.size w w' := by
  have h := Lib.hid h
  have h' := Lib.hid h'
  obtain ⟨n, hn⟩ : ∃ n, Hid (E.length = n) := ⟨_, Lib.hid rfl⟩
  rw [hn.out] at hm ⊢
  go_enter Tryz.func28, Tryz.ntmps28
  go_wp2_with fail
  go_loopw [5] (fun i wr => ∃ k : Nat, k ≤ n ∧ i = .int .i64 k ∧ Hid (Below w.heap.size w wr)) (fun i _ => n - (intOf i).toNat)
  case atStart => exact ⟨0, Nat.zero_le _, rfl, Lib.hid (Below.refl _ _)⟩
  case round =>
    obtain ⟨k, hk, rfl, hnx⟩ := hrel
    by_cases hlt : k < n
    · have hkE : k < E.length := by rw [hn.out]; exact hlt
      have hA := h.out.up hnx.out (Nat.le_refl _)
      have hA' := h'.out.up hnx.out (Nat.le_refl _)
      have hbl := hA.lt
      have hbl' := hA'.lt
      have hP := hA.at_ k hkE
      have hP' := hA'.at_ k hkE
      obtain ⟨ua, un, uc, hu⟩ : ∃ ua un uc, U k = .slice ua un uc := by obtain ⟨a, c, e, _⟩ := hP.ids; exact ⟨a, _, c, e⟩
      obtain ⟨va, vn, vc, hv⟩ : ∃ ua un uc, U' k = .slice ua un uc := by obtain ⟨a, c, e, _⟩ := hP'.ids; exact ⟨a, _, c, e⟩
      rw [hu] at hP
      rw [hv] at hP'
      have sc := fun W (hB : Below wr.heap.size wr W) => eqE_any (E.getD k en0) (.slice ua un uc) (.slice va vn vc) W (hP.ids.up hB (Nat.le_refl _)) (hP'.ids.up hB (Nat.le_refl _))
      have q0 := hP.c0
      have r0 := hP'.c0
      have q1 := hP.c1
      have r1 := hP'.c1
      have q2 := hP.c2
      have r2 := hP'.c2
      have q3 := hP.c3
      have r3 := hP'.c3
      have q4 := hP.c4
      have r4 := hP'.c4
      have q5 := hP.c5
      have r5 := hP'.c5
      have q6 := hP.c6
      have r6 := hP'.c6
      have q7 := hP.c7
      have r7 := hP'.c7
      have q8 := hP.c8
      have r8 := hP'.c8
      clear hu hv hP hP' hA hA' h h'
      unfold env at sc
      generalize E.getD k en0 = x at q0 r0 q1 r1 q2 r2 q3 r3 q4 r4 q5 r5 q6 r6 q7 r7 sc
      obtain ⟨⟨p, r⟩, bal, st, ck, ckey, cv, s, C⟩ := x
      dsimp only at q0 r0 q1 r1 q2 r2 q3 r3 q4 r4 q5 r5 q6 r6 q7 r7 sc
      go_wp2_with fail
      go_region_with (first | (go_at_call 29; refine (sc _ (by first | exact Below.refl _ _ | exact Below.drew (Below.refl _ _))).mono ?_; rintro e w1 ⟨rfl, B⟩; have D1 := Lib.hid (bstep (Below.drew hnx.out) B); clear B))
      all_goals
        go_wp2_with fail
        go_roundw
        case rel => exact ⟨k + 1, by omega, by go_num, D1⟩
        case measure => simp [intOf]; omega
    · obtain rfl : k = n := by omega
      go_wp2_with fail
      go_ret
      exact ⟨rfl, hnx.out⟩

set_option maxRecDepth 100000 in
theorem eqEs_nil (a b : Option Addr) (ca cb : Nat) (w : World) :
    Calls Tryz.prog 28 #[.slice a 0 ca, .slice b 0 cb] w fun e w' => e = .returned (.bool true) ∧ Below w.heap.size w w' := by
  go_enter Tryz.func28, Tryz.ntmps28
  go_wp2_with fail
  refine wp_loop_rounds 1 ?_
  rw [rounds_succ]
  go_wp2_with fail
  go_ret
  exact ⟨rfl, Below.refl _ _⟩

/-- ENTRIES ARE LIKE THEMSELVES. -/
theorem eqEs_any (u v : Value) (E : List En) (w : World) (hu : Ens w u E) (hv : Ens w v E) :
    Calls Tryz.prog 28 #[u, v] w fun e w' => e = .returned (.bool true) ∧ Below w.heap.size w w' := by
  obtain ⟨a, cap, rfl, h1, h2, h3⟩ := hu
  obtain ⟨a', cap', rfl, g1, g2, g3⟩ := hv
  rcases h3 with h3 | ⟨b, off, U, rfl, h4⟩
  · obtain rfl : E = [] := List.length_eq_zero_iff.1 h3
    exact eqEs_nil a a' cap cap' w
  · rcases g3 with g3 | ⟨b', off', U', rfl, g4⟩
    · obtain rfl : E = [] := List.length_eq_zero_iff.1 g3
      exact eqEs_nil _ _ _ _ w
    · exact eqEs_at b off cap b' off' cap' E U U' w h2 h4 g4
end Go.Proofs.YtiolhjjkjmepcaaGreatDoor

/- The laws' copy of an entry. -/
namespace Go.Proofs.YtiolhjjkjmepcaaGreatDoor
open Go.RowKit
set_option linter.unusedVariables false

theorem en_res (tm : Array Value) (w : World) (b : Nat) (x0 x1 x2 x3 x4 x5 x6 x7 x8 : Value) (t : TypeId) (h2 : tm[2]? = some (.pointer (some ⟨b, 0, none⟩))) (h : w.heap[b]? = some (.cells #[x0, x1, x2, x3, x4, x5, x6, x7, x8] t (0, 0))) :
    (results Tryz.f27 tm).run Tryz.prog w = .ok (.agg #[x0, x1, x2, x3, x4, x5, x6, x7, x8]) w := by
  obtain ⟨t0, t1, t2, t3, t4, t5, t6, t7, t8⟩ := nine_cells h
  simp [results, Tryz.results27, go_sem, h2, t0, t1, t2, t3, t4, t5, t6, t7, t8]

/-- An entry's copy. -/
def EnCPost (x : En) (w : World) (e : Ending) (w' : World) : Prop :=
  ∃ b u, w.heap.size ≤ b ∧ e = .returned (env x u) ∧ OwnP w' b u x.deps ∧ Below w.heap.size w w'

set_option maxRecDepth 100000 in
set_option maxHeartbeats 4000000 in
theorem toE_any (x : En) (u : Value) (w : World) (h : Ids w u x.deps) :
    Calls Tryz.prog 27 #[env x u] w (EnCPost x w) := by
  have sc := fun W (hb : Below w.heap.size w W) => toP_any u x.deps W (h.up hb (Nat.le_refl _))
  obtain ⟨ua, uc, rfl, _⟩ := h
  obtain ⟨⟨p, r⟩, bal, st, k, key, v, s, C⟩ := x
  unfold EnCPost
  dsimp only [env] at sc ⊢
  obtain ⟨n, hn⟩ : ∃ n, Hid (C.length = n) := ⟨_, Lib.hid rfl⟩
  rw [hn.out] at sc ⊢
  have D0 := Lib.hid ((((Below.refl w.heap.size w).alloc (Nat.le_refl _) (.cells #[.int .i64 p, .int .i64 r, .int .i64 bal, .int .i64 st, .int .i64 k, .int .i64 key, .int .i64 v, .int .i64 s, .slice ua n uc] 48)).alloc (by simp) (.cells #[.int .i64 0, .int .i64 0, .int .i64 0, .int .i64 0, .int .i64 0, .int .i64 0, .int .i64 0, .int .i64 0, .slice none 0 0] 30)).alloc (by simp; omega) (.cells #[.int .i64 0, .int .i64 0, .int .i64 0, .int .i64 0, .int .i64 0, .int .i64 0, .int .i64 0, .int .i64 0, .slice none 0 0] 30))
  have A0 := Lib.hid ((Below.heap_alloc _ (.cells #[.int .i64 0, .int .i64 0, .int .i64 0, .int .i64 0, .int .i64 0, .int .i64 0, .int .i64 0, .int .i64 0, .slice none 0 0] 30) _ (by simp; omega)).trans ((Below.heap_alloc _ (.cells #[.int .i64 0, .int .i64 0, .int .i64 0, .int .i64 0, .int .i64 0, .int .i64 0, .int .i64 0, .int .i64 0, .slice none 0 0] 30) _ (by simp)).trans (heap_alloc_new w (.cells #[.int .i64 p, .int .i64 r, .int .i64 bal, .int .i64 st, .int .i64 k, .int .i64 key, .int .i64 v, .int .i64 s, .slice ua n uc] 48))))
  have R0 := Lib.hid ((Below.heap_alloc _ (.cells #[.int .i64 0, .int .i64 0, .int .i64 0, .int .i64 0, .int .i64 0, .int .i64 0, .int .i64 0, .int .i64 0, .slice none 0 0] 30) _ (by simp)).trans (heap_alloc_at (w.alloc (.cells #[.int .i64 p, .int .i64 r, .int .i64 bal, .int .i64 st, .int .i64 k, .int .i64 key, .int .i64 v, .int .i64 s, .slice ua n uc] 48)) (.cells #[.int .i64 0, .int .i64 0, .int .i64 0, .int .i64 0, .int .i64 0, .int .i64 0, .int .i64 0, .int .i64 0, .slice none 0 0] 30) (w.heap.size + 1) (by simp)))
  have O0 := Lib.hid (heap_alloc_at ((w.alloc (.cells #[.int .i64 p, .int .i64 r, .int .i64 bal, .int .i64 st, .int .i64 k, .int .i64 key, .int .i64 v, .int .i64 s, .slice ua n uc] 48)).alloc (.cells #[.int .i64 0, .int .i64 0, .int .i64 0, .int .i64 0, .int .i64 0, .int .i64 0, .int .i64 0, .int .i64 0, .slice none 0 0] 30)) (.cells #[.int .i64 0, .int .i64 0, .int .i64 0, .int .i64 0, .int .i64 0, .int .i64 0, .int .i64 0, .int .i64 0, .slice none 0 0] 30) (w.heap.size + 1 + 1) (by simp))
  go_enter Tryz.func27, Tryz.ntmps27
  go_wp2_with fail
  refine (toId_any p r _).mono ?_
  rintro e w1 ⟨rfl, B⟩
  have D1 := Lib.hid (D0.out.trans (B.mono D0.out.size))
  have A1 := Lib.hid (bblk B (lt_of_heap A0.out) A0.out)
  have R1 := Lib.hid (bblk B (lt_of_heap R0.out) R0.out)
  have O1 := Lib.hid (bblk B (lt_of_heap O0.out) O0.out)
  clear B D0 A0 R0 O0
  obtain ⟨a0, a1, a2, a3, a4, a5, a6, a7, a8⟩ := nine_cells A1.out
  obtain ⟨o0, o1, o2, o3, o4, o5, o6, o7, o8⟩ := nine_cells O1.out
  have f0 := nine_free O1.out 0
  have f1 := nine_free O1.out 1
  have f2 := nine_free O1.out 2
  have f3 := nine_free O1.out 3
  have f4 := nine_free O1.out 4
  have f5 := nine_free O1.out 5
  have f6 := nine_free O1.out 6
  have f7 := nine_free O1.out 7
  have f8 := nine_free O1.out 8
  have s1 := lt_of_heap O1.out
  go_wp2_with fail
  refine (toCmd_any k key v _).mono ?_
  rintro e w2 ⟨rfl, B⟩
  have O2 : Hid (w2.heap[w.heap.size + 1 + 1]? = some (.cells #[.int .i64 p, .int .i64 r, .int .i64 bal, .int .i64 st, .int .i64 0, .int .i64 0, .int .i64 0, .int .i64 0, .slice none 0 0] 30 (0, 0))) := Lib.hid ((B.block _ (by simp; omega)).trans (heap_setCell_same _ _ 3 _ _ (.int .i64 st) (heap_setCell_same _ _ 2 _ _ (.int .i64 bal) (heap_setCell_same _ _ 1 _ _ (.int .i64 r) (heap_setCell_same _ _ 0 _ _ (.int .i64 p) O1.out)))))
  have A2 := Lib.hid ((B.block w.heap.size (by simp; omega)).trans ((heap_setCell_other _ ⟨w.heap.size + 1 + 1, 3, none⟩ (w.heap.size) (.int .i64 st) (by first | (simp; done) | (simp; omega))).trans ((heap_setCell_other _ ⟨w.heap.size + 1 + 1, 2, none⟩ (w.heap.size) (.int .i64 bal) (by first | (simp; done) | (simp; omega))).trans ((heap_setCell_other _ ⟨w.heap.size + 1 + 1, 1, none⟩ (w.heap.size) (.int .i64 r) (by first | (simp; done) | (simp; omega))).trans ((heap_setCell_other _ ⟨w.heap.size + 1 + 1, 0, none⟩ (w.heap.size) (.int .i64 p) (by first | (simp; done) | (simp; omega))).trans A1.out)))))
  have R2 := Lib.hid ((B.block (w.heap.size + 1) (by simp; omega)).trans ((heap_setCell_other _ ⟨w.heap.size + 1 + 1, 3, none⟩ (w.heap.size + 1) (.int .i64 st) (by first | (simp; done) | (simp; omega))).trans ((heap_setCell_other _ ⟨w.heap.size + 1 + 1, 2, none⟩ (w.heap.size + 1) (.int .i64 bal) (by first | (simp; done) | (simp; omega))).trans ((heap_setCell_other _ ⟨w.heap.size + 1 + 1, 1, none⟩ (w.heap.size + 1) (.int .i64 r) (by first | (simp; done) | (simp; omega))).trans ((heap_setCell_other _ ⟨w.heap.size + 1 + 1, 0, none⟩ (w.heap.size + 1) (.int .i64 p) (by first | (simp; done) | (simp; omega))).trans R1.out)))))
  have D2 := Lib.hid (bstep ((((D1.out.setCell (p := ⟨w.heap.size + 1 + 1, 0, none⟩) (by show w.heap.size ≤ w.heap.size + 1 + 1; omega) (.int .i64 p)).setCell (p := ⟨w.heap.size + 1 + 1, 1, none⟩) (by show w.heap.size ≤ w.heap.size + 1 + 1; omega) (.int .i64 r)).setCell (p := ⟨w.heap.size + 1 + 1, 2, none⟩) (by show w.heap.size ≤ w.heap.size + 1 + 1; omega) (.int .i64 bal)).setCell (p := ⟨w.heap.size + 1 + 1, 3, none⟩) (by show w.heap.size ≤ w.heap.size + 1 + 1; omega) (.int .i64 st)) B)
  clear B D1 A1 R1 O1 s1
  clear a0 o0 f0 a1 o1 f1 a2 o2 f2 a3 o3 f3 a4 o4 f4 a5 o5 f5 a6 o6 f6 a7 o7 f7 a8 o8 f8
  obtain ⟨a0, a1, a2, a3, a4, a5, a6, a7, a8⟩ := nine_cells A2.out
  obtain ⟨o0, o1, o2, o3, o4, o5, o6, o7, o8⟩ := nine_cells O2.out
  have f0 := nine_free O2.out 0
  have f1 := nine_free O2.out 1
  have f2 := nine_free O2.out 2
  have f3 := nine_free O2.out 3
  have f4 := nine_free O2.out 4
  have f5 := nine_free O2.out 5
  have f6 := nine_free O2.out 6
  have f7 := nine_free O2.out 7
  have f8 := nine_free O2.out 8
  have s1 := lt_of_heap O2.out
  go_wp2_with fail
  have O3 := (heap_setCell_same _ _ 7 _ _ (.int .i64 s) (heap_setCell_same _ _ 6 _ _ (.int .i64 v) (heap_setCell_same _ _ 5 _ _ (.int .i64 key) (heap_setCell_same _ _ 4 _ _ (.int .i64 k) O2.out))))
  have D3 := Lib.hid ((((D2.out.setCell (p := ⟨w.heap.size + 1 + 1, 4, none⟩) (by show w.heap.size ≤ w.heap.size + 1 + 1; omega) (.int .i64 k)).setCell (p := ⟨w.heap.size + 1 + 1, 5, none⟩) (by show w.heap.size ≤ w.heap.size + 1 + 1; omega) (.int .i64 key)).setCell (p := ⟨w.heap.size + 1 + 1, 6, none⟩) (by show w.heap.size ≤ w.heap.size + 1 + 1; omega) (.int .i64 v)).setCell (p := ⟨w.heap.size + 1 + 1, 7, none⟩) (by show w.heap.size ≤ w.heap.size + 1 + 1; omega) (.int .i64 s))
  have A3 := ((heap_setCell_other _ ⟨w.heap.size + 1 + 1, 7, none⟩ (w.heap.size) (.int .i64 s) (by first | (simp; done) | (simp; omega))).trans ((heap_setCell_other _ ⟨w.heap.size + 1 + 1, 6, none⟩ (w.heap.size) (.int .i64 v) (by first | (simp; done) | (simp; omega))).trans ((heap_setCell_other _ ⟨w.heap.size + 1 + 1, 5, none⟩ (w.heap.size) (.int .i64 key) (by first | (simp; done) | (simp; omega))).trans ((heap_setCell_other _ ⟨w.heap.size + 1 + 1, 4, none⟩ (w.heap.size) (.int .i64 k) (by first | (simp; done) | (simp; omega))).trans A2.out))))
  have R3 := ((heap_setCell_other _ ⟨w.heap.size + 1 + 1, 7, none⟩ (w.heap.size + 1) (.int .i64 s) (by first | (simp; done) | (simp; omega))).trans ((heap_setCell_other _ ⟨w.heap.size + 1 + 1, 6, none⟩ (w.heap.size + 1) (.int .i64 v) (by first | (simp; done) | (simp; omega))).trans ((heap_setCell_other _ ⟨w.heap.size + 1 + 1, 5, none⟩ (w.heap.size + 1) (.int .i64 key) (by first | (simp; done) | (simp; omega))).trans ((heap_setCell_other _ ⟨w.heap.size + 1 + 1, 4, none⟩ (w.heap.size + 1) (.int .i64 k) (by first | (simp; done) | (simp; omega))).trans R2.out))))
  refine (sc _ D3.out).mono ?_
  rintro e w3 ⟨b, u', hbu, rfl, hO, B⟩
  obtain ⟨cap, rfl, _⟩ := hO.shape
  rw [hn.out] at hO ⊢
  have O4 : Hid (w3.heap[w.heap.size + 1 + 1]? = some (.cells #[.int .i64 p, .int .i64 r, .int .i64 bal, .int .i64 st, .int .i64 k, .int .i64 key, .int .i64 v, .int .i64 s, .slice none 0 0] 30 (0, 0))) := Lib.hid ((B.block _ (by simp; omega)).trans O3)
  have A4 := Lib.hid ((B.block w.heap.size (by simp; omega)).trans A3)
  have R4 := Lib.hid ((B.block (w.heap.size + 1) (by simp; omega)).trans R3)
  have D4 := Lib.hid (bstep D3.out B)
  have hble := Lib.hid (Nat.le_trans D3.out.size hbu)
  have hne1 : b ≠ w.heap.size + 1 + 1 := by have := hbu; simp at this; omega
  have hne2 : b ≠ w.heap.size + 1 := by have := hbu; simp at this; omega
  have hO := Lib.hid hO
  clear B D2 D3 A2 R2 O2 s1 O3 A3 R3 hbu sc
  clear a0 o0 f0 a1 o1 f1 a2 o2 f2 a3 o3 f3 a4 o4 f4 a5 o5 f5 a6 o6 f6 a7 o7 f7 a8 o8 f8
  obtain ⟨o0, o1, o2, o3, o4, o5, o6, o7, o8⟩ := nine_cells O4.out
  have f0 := nine_free O4.out 0
  have f1 := nine_free O4.out 1
  have f2 := nine_free O4.out 2
  have f3 := nine_free O4.out 3
  have f4 := nine_free O4.out 4
  have f5 := nine_free O4.out 5
  have f6 := nine_free O4.out 6
  have f7 := nine_free O4.out 7
  have f8 := nine_free O4.out 8
  obtain ⟨a0, a1, a2, a3, a4, a5, a6, a7, a8⟩ := nine_cells R4.out
  have g0 := nine_free R4.out 0
  have g1 := nine_free R4.out 1
  have g2 := nine_free R4.out 2
  have g3 := nine_free R4.out 3
  have g4 := nine_free R4.out 4
  have g5 := nine_free R4.out 5
  have g6 := nine_free R4.out 6
  have g7 := nine_free R4.out 7
  have g8 := nine_free R4.out 8
  have s1 := lt_of_heap O4.out
  go_wp2_with fail
  have hfin := (heap_setCell_same _ _ 8 _ _ (.slice (some ⟨b, 0, none⟩) n cap) (heap_setCell_same _ _ 7 _ _ (.int .i64 s) (heap_setCell_same _ _ 6 _ _ (.int .i64 v) (heap_setCell_same _ _ 5 _ _ (.int .i64 key) (heap_setCell_same _ _ 4 _ _ (.int .i64 k) (heap_setCell_same _ _ 3 _ _ (.int .i64 st) (heap_setCell_same _ _ 2 _ _ (.int .i64 bal) (heap_setCell_same _ _ 1 _ _ (.int .i64 r) (heap_setCell_same _ _ 0 _ _ (.int .i64 p) ((heap_setCell_other w3 ⟨w.heap.size + 1 + 1, 8, none⟩ (w.heap.size + 1) (.slice (some ⟨b, 0, none⟩) n cap) (by simp)).trans R4.out))))))))))
  simp only [List.setIfInBounds_toArray, List.set_cons_zero, List.set_cons_succ] at hfin
  refine bodyPost_ret (en_res _ _ _ _ _ _ _ _ _ _ _ _ _ rfl hfin) rfl ⟨b, .slice (some ⟨b, 0, none⟩) n cap, hble.out, rfl, hO.out.same ?_, ?_⟩
  · rw [heap_setCell_other _ _ _ _ hne2, heap_setCell_other _ _ _ _ hne2, heap_setCell_other _ _ _ _ hne2, heap_setCell_other _ _ _ _ hne2, heap_setCell_other _ _ _ _ hne2, heap_setCell_other _ _ _ _ hne2, heap_setCell_other _ _ _ _ hne2, heap_setCell_other _ _ _ _ hne2, heap_setCell_other _ _ _ _ hne2, heap_setCell_other _ _ _ _ hne1]
  · have D5 := D4.out.setCell (p := ⟨w.heap.size + 1 + 1, 8, none⟩) (by show w.heap.size ≤ w.heap.size + 1 + 1; omega) (.slice (some ⟨b, 0, none⟩) n cap)
    repeat (first | with_reducible exact D5 | with_reducible refine Below.setCell ?_ (by first | (simp; done) | (simp; omega)) _)
end Go.Proofs.YtiolhjjkjmepcaaGreatDoor

/- The laws' copies of slices of entries: toEntryS. -/
namespace Go.Proofs.YtiolhjjkjmepcaaGreatDoor
open Go.RowKit
set_option linter.unusedVariables false

/-- What toEntryS leaves. -/
def EnsCPost (E : List En) (w : World) (e : Ending) (w' : World) : Prop := ∃ v, e = .returned v ∧ EnO w' w.heap.size v E ∧ Below w.heap.size w w'

set_option maxRecDepth 100000 in
set_option maxHeartbeats 4000000 in
theorem toEs_at (b off ca : Nat) (E : List En) (U : Nat → Value) (w : World) (hm : E.length ≤ 2000000) (h : EnsAt w b off E U) :
    Calls Tryz.prog 26 #[.slice (some ⟨b, off, none⟩) E.length ca] w (EnsCPost E w) := by
  have hmk := made_ens E.length hm
  have h := Lib.hid h
  have hO := Lib.hid (enK_made w E.length E 30)
  obtain ⟨n, hn⟩ : ∃ n, Hid (E.length = n) := ⟨_, Lib.hid rfl⟩
  rw [hn.out] at hmk hm hO ⊢
  have B0 := Lib.hid ((Below.refl w.heap.size w).alloc (Nat.le_refl _) (.cells (madeCells #[.int .i64 0, .int .i64 0, .int .i64 0, .int .i64 0, .int .i64 0, .int .i64 0, .int .i64 0, .int .i64 0, .slice none 0 0] (n * 9)) 30))
  go_enter Tryz.func26, Tryz.ntmps26
  go_wp2_with fail
  clear hmk
  go_loopw [4] (fun i wr => ∃ k : Nat, k ≤ n ∧ i = .int .i64 k ∧ Hid (EnK wr w.heap.size w.heap.size n k E) ∧ Hid (Below w.heap.size w wr)) (fun i _ => n - (intOf i).toNat)
  case atStart => exact ⟨0, Nat.zero_le _, rfl, hO, B0⟩
  case round =>
    obtain ⟨k, hk, rfl, hM, hnx⟩ := hrel
    clear hO B0
    by_cases hlt : k < n
    · have hkE : k < E.length := by rw [hn.out]; exact hlt
      have hA := h.out.up hnx.out (Nat.le_refl _)
      have hbl := hA.lt
      obtain ⟨x, hx⟩ : ∃ x, Hid (E.getD k en0 = x) := ⟨_, Lib.hid rfl⟩
      have hX := hA.at_ k hkE
      rw [hx.out] at hX
      obtain ⟨ua, un, uc, hu⟩ : ∃ ua un uc, U k = .slice ua un uc := by obtain ⟨a, c, e, _⟩ := hX.ids; exact ⟨a, _, c, e⟩
      rw [hu] at hX
      have sc := toE_any x (.slice ua un uc) wr hX.ids
      obtain ⟨q0, q1, q2, q3, q4, q5, q6, q7, q8, _⟩ := hX
      clear hu hA
      have put := Lib.hid (fun (W : World) (H : EnK W w.heap.size w.heap.size n k E) (b : Nat) (u : Value) => EnK.put (b := b) (u := u) H hlt hx.out)
      unfold EnCPost env at sc
      obtain ⟨⟨p, r⟩, bal, st, ck, ckey, cv, s, C⟩ := x
      dsimp only at q0 q1 q2 q3 q4 q5 q6 q7 sc
      have hs := Lib.hid hM.out.lt
      go_wp2_with fail
      refine sc.mono ?_
      rintro e w1 ⟨b1, u1, hb1, rfl, hO1, B⟩
      obtain ⟨cap, rfl, _⟩ := hO1.shape
      have hK := hM.out.up B
      obtain ⟨⟨y0, d0⟩, f0⟩ := hK.old (j := k * 9) (by omega)
      obtain ⟨⟨y1, d1⟩, f1⟩ := hK.old (j := k * 9 + 1) (by omega)
      obtain ⟨⟨y2, d2⟩, f2⟩ := hK.old (j := k * 9 + 2) (by omega)
      obtain ⟨⟨y3, d3⟩, f3⟩ := hK.old (j := k * 9 + 3) (by omega)
      obtain ⟨⟨y4, d4⟩, f4⟩ := hK.old (j := k * 9 + 4) (by omega)
      obtain ⟨⟨y5, d5⟩, f5⟩ := hK.old (j := k * 9 + 5) (by omega)
      obtain ⟨⟨y6, d6⟩, f6⟩ := hK.old (j := k * 9 + 6) (by omega)
      obtain ⟨⟨y7, d7⟩, f7⟩ := hK.old (j := k * 9 + 7) (by omega)
      obtain ⟨⟨y8, d8⟩, f8⟩ := hK.old (j := k * 9 + 8) (by omega)
      have hs1 := hK.lt
      have R := Lib.hid (put.out w1 hK b1 _ (Nat.le_trans hnx.out.size hb1) (by have := hs.out; omega) hO1)
      have D1 := Lib.hid (hnx.out.trans (B.mono hnx.out.size))
      clear hM h hO1 B hnx q0 q1 q2 q3 q4 q5 q6 q7 q8 hs hK sc put hb1 hx
      go_wp2_with fail
      refine ⟨⟨k + 1, by omega, by go_num, Lib.hid R.out, Lib.hid (((((((((D1.out.setCell (p := ⟨w.heap.size, k * 9, none⟩) (Nat.le_refl _) _).setCell (p := ⟨w.heap.size, k * 9 + 1, none⟩) (Nat.le_refl _) _).setCell (p := ⟨w.heap.size, k * 9 + 2, none⟩) (Nat.le_refl _) _).setCell (p := ⟨w.heap.size, k * 9 + 3, none⟩) (Nat.le_refl _) _).setCell (p := ⟨w.heap.size, k * 9 + 4, none⟩) (Nat.le_refl _) _).setCell (p := ⟨w.heap.size, k * 9 + 5, none⟩) (Nat.le_refl _) _).setCell (p := ⟨w.heap.size, k * 9 + 6, none⟩) (Nat.le_refl _) _).setCell (p := ⟨w.heap.size, k * 9 + 7, none⟩) (Nat.le_refl _) _).setCell (p := ⟨w.heap.size, k * 9 + 8, none⟩) (Nat.le_refl _) _)⟩, ?_⟩
      simp [intOf]; omega
    · obtain rfl : k = n := by omega
      clear h
      go_wp2_with fail
      go_ret
      refine ⟨_, rfl, ?_, hnx.out⟩
      obtain ⟨cur, t, h1, h2, h3⟩ := hM.out
      exact ⟨w.heap.size, k, cur, t, by have e := hn.out; subst e; rfl, Nat.le_refl _, h1, by rw [hn.out]; exact Nat.le_refl _, by rw [hn.out]; exact hm, fun i hi => h3 i (by rw [← hn.out]; exact hi)⟩

set_option maxRecDepth 100000 in
theorem toEs_nil (a : Option Addr) (ca : Nat) (w : World) :
    Calls Tryz.prog 26 #[.slice a 0 ca] w (EnsCPost [] w) := by
  have hmk : ∀ w : World, (Instr.makeSlice 23 (.int .i64 0) (.int .i64 0)).run Tryz.prog w = .ok (.slice (some ⟨w.heap.size, 0, none⟩) 0 0) (w.alloc (.cells (madeCells #[.int .i64 0, .int .i64 0, .int .i64 0, .int .i64 0, .int .i64 0, .int .i64 0, .int .i64 0, .int .i64 0, .slice none 0 0] (0 * 9)) 30)) := made_ens 0 (by omega)
  have hO := Lib.hid (enK_made w 0 [] 30)
  go_enter Tryz.func26, Tryz.ntmps26
  go_wp2_with fail
  refine wp_loop_rounds 1 ?_
  rw [rounds_succ]
  go_wp2_with fail
  go_ret
  obtain ⟨cur, t, h1, h2, h3⟩ := hO.out
  exact ⟨_, rfl, ⟨_, 0, cur, t, rfl, Nat.le_refl _, h1, Nat.le_refl _, Nat.zero_le _, h3⟩, (Below.refl _ _).alloc (Nat.le_refl _) _⟩

/-- A COPY OF ENTRIES. -/
theorem toEs_any (u : Value) (E : List En) (w : World) (h : Ens w u E) :
    Calls Tryz.prog 26 #[u] w (EnsCPost E w) := by
  obtain ⟨a, cap, rfl, h1, h2, h3⟩ := h
  rcases h3 with h3 | ⟨b, off, U, rfl, h4⟩
  · obtain rfl : E = [] := List.length_eq_zero_iff.1 h3
    exact toEs_nil a cap w
  · exact toEs_at b off cap E U w h2 h4
end Go.Proofs.YtiolhjjkjmepcaaGreatDoor
