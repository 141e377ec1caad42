/- Texts laid together. -/
import Derived.Test.YtiolhjjkjmepcaaGreatDoorC01
import Derived.Test.YtiolhjjkjmepcaaGreatDoorC02
import Derived.Test.YtiolhjjkjmepcaaGreatDoorC11
import Derived.Deep.RegionHeld3
import Derived.Deep.RegionWith
import Derived.IntWalk
/- Insertion sort at ids: what it keeps. -/
namespace Go.Proofs.YtiolhjjkjmepcaaGreatDoor
open Go.RowKit
set_option linter.unusedVariables false

/-- Within insertion sort: all up to i are in order, but the one at j, which is sooner than all behind it. -/
structure InI (Q0 Q : List Pid) (i j : Nat) : Prop where
  perm : Q.Perm Q0
  le : j ≤ i
  lt : i < Q.length
  ord : ∀ a b, a < b → b ≤ i → a ≠ j → b ≠ j → ltP (Q.getD a nop) (Q.getD b nop) = true
  low : ∀ b, j < b → b ≤ i → ltP (Q.getD j nop) (Q.getD b nop) = true
/-- All ahead of i are in order. -/
structure SrI (Q0 Q : List Pid) (i : Nat) : Prop where
  perm : Q.Perm Q0
  le : i ≤ Q.length
  ord : ∀ a b, a < b → b < i → ltP (Q.getD a nop) (Q.getD b nop) = true
theorem SrI.ins {Q0 Q : List Pid} {i : Nat} (h : SrI Q0 Q i) (hi : i < Q.length) : InI Q0 Q i i :=
  ⟨h.perm, Nat.le_refl _, hi, fun a b hab hb _ hb' => h.ord a b hab (by omega), fun b h1 h2 => by omega⟩
theorem InI.done {Q0 Q : List Pid} {i j : Nat} (h : InI Q0 Q i j) (hj : j = 0 ∨ ltP (Q.getD (j - 1) nop) (Q.getD j nop) = true) : SrI Q0 Q (i + 1) := by
  refine ⟨h.perm, h.lt, fun a b hab hb => ?_⟩
  by_cases ea : a = j
  · subst ea; exact h.low b hab (by omega)
  · by_cases eb : b = j
    · subst eb
      rcases hj with rfl | hj
      · omega
      · by_cases e : a = b - 1
        · subst e; exact hj
        · exact ltP_trans (h.ord a (b - 1) (by omega) (by omega) ea (by omega)) hj
    · exact h.ord a b hab (by omega) ea eb
theorem InI.step {Q0 Q : List Pid} {i j : Nat} (h : InI Q0 Q i (j + 1)) (hs : ltP (Q.getD (j + 1) nop) (Q.getD j nop) = true) : InI Q0 ((Q.set (j + 1) (Q.getD j nop)).set j (Q.getD (j + 1) nop)) i j := by
  have hlt := h.lt
  have hle := h.le
  have hj1 : j + 1 < Q.length := by omega
  have g0 : ((Q.set (j + 1) (Q.getD j nop)).set j (Q.getD (j + 1) nop)).getD j nop = Q.getD (j + 1) nop := by
    rw [List.getD_eq_getElem?_getD, List.getElem?_set_self (by rw [List.length_set]; omega)]; rfl
  have g1 : ((Q.set (j + 1) (Q.getD j nop)).set j (Q.getD (j + 1) nop)).getD (j + 1) nop = Q.getD j nop := by
    rw [List.getD_eq_getElem?_getD, List.getElem?_set_ne (by omega), List.getElem?_set_self hj1]; rfl
  have g2 : ∀ m, m ≠ j → m ≠ j + 1 → ((Q.set (j + 1) (Q.getD j nop)).set j (Q.getD (j + 1) nop)).getD m nop = Q.getD m nop := fun m h1 h2 => by
    rw [List.getD_eq_getElem?_getD, List.getElem?_set_ne (fun e => h1 e.symm), List.getElem?_set_ne (fun e => h2 e.symm), ← List.getD_eq_getElem?_getD]
  refine ⟨?_, by omega, by rw [List.length_set, List.length_set]; exact hlt, fun a b hab hb ha hb' => ?_, fun b h1 h2 => ?_⟩
  · refine List.Perm.trans ?_ h.perm
    have e : Q = Q.take j ++ Q[j] :: Q[j + 1] :: Q.drop (j + 2) := by
      rw [← List.drop_eq_getElem_cons hj1, ← List.drop_eq_getElem_cons (by omega), List.take_append_drop]
    have e' : (Q.set (j + 1) (Q.getD j nop)).set j (Q.getD (j + 1) nop) = Q.take j ++ Q[j + 1] :: Q[j] :: Q.drop (j + 2) := by
      have q0 : Q.getD j nop = Q[j] := by rw [List.getD_eq_getElem?_getD, List.getElem?_eq_getElem (by omega)]; rfl
      have q1 : Q.getD (j + 1) nop = Q[j + 1] := by rw [List.getD_eq_getElem?_getD, List.getElem?_eq_getElem hj1]; rfl
      rw [q0, q1]
      generalize Q[j] = y at e ⊢
      generalize Q[j + 1] = x at e ⊢
      have hl : (Q.take j).length = j := by rw [List.length_take]; omega
      generalize Q.take j = A at e hl ⊢
      generalize Q.drop (j + 2) = B at e ⊢
      subst e
      subst hl
      simp
    rw [e']
    conv => rhs; rw [e]
    exact List.Perm.append_left _ (List.Perm.swap _ _ _)
  · by_cases eb : b = j + 1
    · subst eb; rw [g1, g2 a ha (by omega)]
      exact h.ord a j (by omega) (by omega) (by omega) (by omega)
    · rw [g2 b hb' eb]
      by_cases ea : a = j + 1
      · subst ea; rw [g1]
        exact h.ord j b (by omega) hb (by omega) eb
      · rw [g2 a ha ea]; exact h.ord a b hab hb ea eb
  · rw [g0]
    by_cases eb : b = j + 1
    · subst eb; rw [g1]; exact hs
    · rw [g2 b (by omega) eb]; exact h.low b (by omega) h2
end Go.Proofs.YtiolhjjkjmepcaaGreatDoor

/- slices' insertion sort at ids. -/
namespace Go.Proofs.YtiolhjjkjmepcaaGreatDoor
open Go.RowKit
set_option linter.unusedVariables false

theorem OwnP.drewI {w : World} {b : Nat} {u : Value} {C : List Pid} (h : OwnP w b u C) : OwnP w.drew b u C := h.same rfl
theorem swap_exi {mb : Nat} {w W : World} (h : Exc (fun b => b = mb) w W) (o0 o1 o2 o3 : Nat) (v0 v1 v2 v3 : Value) :
    Exc (fun b => b = mb) w ((((W.setCell ⟨mb, o0, none⟩ v0).setCell ⟨mb, o1, none⟩ v1).setCell ⟨mb, o2, none⟩ v2).setCell ⟨mb, o3, none⟩ v3).drew :=
  ((((h.set (.inl rfl) _ _).set (.inl rfl) _ _).set (.inl rfl) _ _).set (.inl rfl) _ _).drew
theorem inI_up {Q0 Q : List Pid} {k jj : Nat} {c d : Pid} (h : InI Q0 Q k (jj + 1)) (hx : Q.getD (jj + 1) nop = c) (hy : Q.getD jj nop = d) (hl : ltP c d = true) : InI Q0 ((Q.set (jj + 1) d).set jj c) k jj := by
  have := h.step (by rw [hx, hy]; exact hl)
  rw [hx, hy] at this
  exact this
theorem inI_end {Q0 Q : List Pid} {k jj : Nat} {c d : Pid} (h : InI Q0 Q k (jj + 1)) (hnd : Q0.Nodup) (hx : Q.getD (jj + 1) nop = c) (hy : Q.getD jj nop = d) (hj : jj + 1 < Q.length) (hl : ¬ ltP c d = true) : SrI Q0 Q (k + 1) := by
  refine h.done (.inr ?_)
  show ltP (Q.getD jj nop) (Q.getD (jj + 1) nop) = true
  rw [hx, hy]
  cases e : ltP d c with
  | true => rfl
  | false =>
    have e2 : c = d := ltP_tri (by simpa using hl) e
    have hd : Q.Nodup := h.perm.nodup_iff.2 hnd
    rw [List.getD_eq_getElem?_getD, List.getElem?_eq_getElem hj, Option.getD_some] at hx
    rw [List.getD_eq_getElem?_getD, List.getElem?_eq_getElem (show jj < Q.length by omega), Option.getD_some] at hy
    exact absurd (hy.trans (e2.symm.trans hx.symm)) (List.pairwise_iff_getElem.1 hd jj (jj + 1) (by omega) hj (by omega))

set_option maxRecDepth 100000 in
set_option maxHeartbeats 4000000 in
theorem iins_at (mb cap n : Nat) (Q0 : List Pid) (w : World) (hn : Q0.length = n) (hnd : Q0.Nodup) (h1 : 1 ≤ n) (h2 : n ≤ 12) (hR : OwnP w mb (.slice (some ⟨mb, 0, none⟩) n cap) Q0) :
    Calls Tryz.prog 103 #[.slice (some ⟨mb, 0, none⟩) n cap, .int .i64 0, .int .i64 n, .func (.func 71) #[] #[]] w fun e w' =>
      e = .returned (.tuple #[]) ∧ ∃ Q, SrI Q0 Q n ∧ OwnP w' mb (.slice (some ⟨mb, 0, none⟩) n cap) Q ∧ Exc (fun b => b = mb) w w' := by
  have hR := Lib.hid hR
  have hnd := Lib.hid hnd
  have hn := Lib.hid hn
  have hmb := hR.out.lt
  go_enter Tryz.func103, Tryz.ntmps103
  go_wp2_with fail
  go_loopw [8] (fun i wr => ∃ k : Nat, 1 ≤ k ∧ k ≤ n ∧ i = .int .i64 k ∧ ∃ Q, Hid (SrI Q0 Q k ∧ OwnP wr mb (.slice (some ⟨mb, 0, none⟩) n cap) Q ∧ Exc (fun b => b = mb) w wr)) (fun i _ => n - (intOf i).toNat)
  case atStart => exact ⟨1, Nat.le_refl _, h1, rfl, Q0, Lib.hid ⟨⟨List.Perm.refl _, by rw [hn.out]; exact h1, fun a b hab hb => by omega⟩, hR.out, Exc.refl _ _⟩⟩
  case round =>
    obtain ⟨k, hk1, hk, rfl, Q, hS⟩ := hrel
    clear hR
    by_cases hlt : k < n
    · have hI := Lib.hid (hS.out.1.ins (by rw [hS.out.1.perm.length_eq, hn.out]; exact hlt))
      have hc : decide ((k : Int) < (n : Int)) = true := by simp; omega
      go_wp2_with fail
      try simp only [hc]
      go_loopw [9] (fun i wr2 => ∃ j : Nat, j ≤ k ∧ i = .int .i64 j ∧ ∃ Q, Hid (InI Q0 Q k j ∧ OwnP wr2 mb (.slice (some ⟨mb, 0, none⟩) n cap) Q ∧ Exc (fun b => b = mb) w wr2)) (fun i _ => (intOf i).toNat)
      case atStart => exact ⟨k, Nat.le_refl _, rfl, Q, Lib.hid ⟨hI.out, hS.out.2.1, hS.out.2.2⟩⟩
      case round =>
        clear hI hS
        obtain ⟨j, hjk, rfl, Q, hS⟩ := hrel
        have hln : Q.length = n := by rw [← hn.out]; exact hS.out.1.perm.length_eq
        rcases Nat.eq_zero_or_pos j with hj0 | hj0
        · subst hj0
          have R := Lib.hid (hS.out.1.done (.inl rfl))
          have R2 := Lib.hid hS.out.2
          clear hS hln
          go_upto_region 4 with fail
          refine wp_region_held_drew (S := fun w' => Below wr.heap.size wr w') (by kernel_rfl) (Below.drew (Below.refl _ _)) (fun hHeld => ?_)
          refine wpAnyH_take (i := 0) (oi := ⟨some 18, _, _, _, _, _⟩) (v := ?_) rfl (by kernel_rfl) (by kernel_rfl) (by kernel_rfl) (fun _ _ _ h => h) (Or.inl ⟨by rfl, ?_⟩) (by assumption) ?_
          rotate_left 1
          · intro w hSw; (try dsimp only at hSw); go_simp; try (with_reducible rfl)
          try simp only [Act.put, List.setIfInBounds_toArray, List.set_cons_zero, List.set_cons_succ]
          refine wpAnyH_take (i := 1) (oi := ⟨some 19, _, _, _, _, _⟩) (v := ?_) rfl (by kernel_rfl) (by kernel_rfl) (by kernel_rfl) (fun _ _ _ h => h) (Or.inl ⟨by rfl, ?_⟩) (by assumption) ?_
          rotate_left 1
          · intro w hSw; (try dsimp only at hSw); go_simp; try (with_reducible rfl)
          try simp only [Act.put, List.setIfInBounds_toArray, List.set_cons_zero, List.set_cons_succ]
          refine wpAnyH_take (i := 2) (oi := ⟨some 20, _, _, _, _, _⟩) (v := ?_) rfl (by kernel_rfl) (by kernel_rfl) (by kernel_rfl) (fun _ _ _ h => h) (Or.inl ⟨by rfl, ?_⟩) (by assumption) ?_
          rotate_left 1
          · intro w hSw; (try dsimp only at hSw); go_simp; try (with_reducible rfl)
          try simp only [Act.put, List.setIfInBounds_toArray, List.set_cons_zero, List.set_cons_succ]
          refine wpAnyH_take (i := 3) (oi := ⟨some 21, _, _, _, _, _⟩) (v := ?_) rfl (by kernel_rfl) (by kernel_rfl) (by kernel_rfl) (fun _ _ _ h => h) (Or.inl ⟨by rfl, ?_⟩) (by assumption) ?_
          rotate_left 1
          · intro w hSw; (try dsimp only at hSw); go_simp; try (with_reducible rfl)
          try simp only [Act.put, List.setIfInBounds_toArray, List.set_cons_zero, List.set_cons_succ]
          refine wpAnyH_take (i := 4) (oi := ⟨some 22, _, _, _, _, _⟩) (v := undef) rfl (by kernel_rfl) (by kernel_rfl) (by kernel_rfl) (fun _ _ _ h => h) (Or.inr ⟨by rfl, rfl⟩) (by assumption) ?_
          try simp only [Act.put, List.setIfInBounds_toArray, List.set_cons_zero, List.set_cons_succ]
          refine wpAnyH_take (i := 5) (oi := ⟨some 23, _, _, _, _, _⟩) (v := undef) rfl (by kernel_rfl) (by kernel_rfl) (by kernel_rfl) (fun _ _ _ h => h) (Or.inr ⟨by rfl, rfl⟩) (by assumption) ?_
          try simp only [Act.put, List.setIfInBounds_toArray, List.set_cons_zero, List.set_cons_succ]
          refine wpAnyH_take (i := 6) (oi := ⟨some 24, _, _, _, _, _⟩) (v := undef) rfl (by kernel_rfl) (by kernel_rfl) (by kernel_rfl) (fun _ _ _ h => h) (Or.inr ⟨by rfl, rfl⟩) (by assumption) ?_
          try simp only [Act.put, List.setIfInBounds_toArray, List.set_cons_zero, List.set_cons_succ]
          refine wpAnyH_take (i := 7) (oi := ⟨some 25, _, _, _, _, _⟩) (v := undef) rfl (by kernel_rfl) (by kernel_rfl) (by kernel_rfl) (fun _ _ _ h => h) (Or.inr ⟨by rfl, rfl⟩) (by assumption) ?_
          try simp only [Act.put, List.setIfInBounds_toArray, List.set_cons_zero, List.set_cons_succ]
          refine wpAnyH_take (i := 8) (oi := ⟨some 26, _, _, _, _, _⟩) (v := undef) rfl (by kernel_rfl) (by kernel_rfl) (by kernel_rfl) (fun _ _ _ h => h) (Or.inr ⟨by rfl, rfl⟩) (by assumption) ?_
          try simp only [Act.put, List.setIfInBounds_toArray, List.set_cons_zero, List.set_cons_succ]
          refine wpAnyH_take (i := 9) (oi := ⟨some 27, _, _, _, _, _⟩) (v := undef) rfl (by kernel_rfl) (by kernel_rfl) (by kernel_rfl) (fun _ _ _ h => h) (Or.inr ⟨by rfl, rfl⟩) (by assumption) ?_
          try simp only [Act.put, List.setIfInBounds_toArray, List.set_cons_zero, List.set_cons_succ]
          refine wpAnyH_take (i := 10) (oi := ⟨some 28, _, _, _, _, _⟩) (v := undef) rfl (by kernel_rfl) (by kernel_rfl) (by kernel_rfl) (fun _ _ _ h => h) (Or.inr ⟨by rfl, rfl⟩) (by assumption) ?_
          try simp only [Act.put, List.setIfInBounds_toArray, List.set_cons_zero, List.set_cons_succ]
          refine wpAnyH_take (i := 11) (oi := ⟨some 29, _, _, _, _, _⟩) (v := undef) rfl (by kernel_rfl) (by kernel_rfl) (by kernel_rfl) (fun _ _ _ h => h) (Or.inr ⟨by rfl, rfl⟩) (by assumption) ?_
          try simp only [Act.put, List.setIfInBounds_toArray, List.set_cons_zero, List.set_cons_succ]
          refine wpAnyH_take (i := 12) (oi := ⟨some 30, _, _, _, _, _⟩) (v := undef) rfl (by kernel_rfl) (by kernel_rfl) (by kernel_rfl) (fun _ _ _ h => h) (Or.inr ⟨by rfl, rfl⟩) (by assumption) ?_
          try simp only [Act.put, List.setIfInBounds_toArray, List.set_cons_zero, List.set_cons_succ]
          refine wpAnyH_take (i := 13) (oi := ⟨some 31, _, _, _, _, _⟩) (v := undef) rfl (by kernel_rfl) (by kernel_rfl) (by kernel_rfl) (fun _ _ _ h => h) (Or.inr ⟨by rfl, rfl⟩) (by assumption) ?_
          try simp only [Act.put, List.setIfInBounds_toArray, List.set_cons_zero, List.set_cons_succ]
          refine wpAnyH_take (i := 14) (oi := ⟨some 32, _, _, _, _, _⟩) (v := undef) rfl (by kernel_rfl) (by kernel_rfl) (by kernel_rfl) (fun _ _ _ h => h) (Or.inr ⟨by rfl, rfl⟩) (by assumption) ?_
          try simp only [Act.put, List.setIfInBounds_toArray, List.set_cons_zero, List.set_cons_succ]
          refine wpAnyH_take (i := 15) (oi := ⟨some 33, _, _, _, _, _⟩) (v := undef) rfl (by kernel_rfl) (by kernel_rfl) (by kernel_rfl) (fun _ _ _ h => h) (Or.inr ⟨by rfl, rfl⟩) (by assumption) ?_
          try simp only [Act.put, List.setIfInBounds_toArray, List.set_cons_zero, List.set_cons_succ]
          refine wpAnyH_take (i := 16) (oi := ⟨some 34, _, _, _, _, _⟩) (v := ?_) rfl (by kernel_rfl) (by kernel_rfl) (by kernel_rfl) (fun _ _ _ h => h) (Or.inl ⟨by rfl, ?_⟩) (by assumption) ?_
          rotate_left 1
          · intro w hSw; (try dsimp only at hSw); go_simp; try (with_reducible rfl)
          try simp only [Act.put, List.setIfInBounds_toArray, List.set_cons_zero, List.set_cons_succ]
          refine wpAnyH_done (by kernel_rfl) ?_ _
          try simp only [Act.put, List.setIfInBounds_toArray, List.set_cons_zero, List.set_cons_succ]
          have R3 := Lib.hid (R2.out.1.same (hHeld.block mb R2.out.1.lt))
          have R4 := Lib.hid (R2.out.2.below hHeld)
          clear hHeld R2
          go_wp2_with fail
          go_roundw
          case rel => exact ⟨k + 1, by omega, by omega, by go_num, Q, Lib.hid ⟨R.out, R3.out, R4.out⟩⟩
          case measure => simp [intOf]; omega
        · obtain ⟨jj, rfl⟩ : ∃ jj, j = jj + 1 := ⟨j - 1, by omega⟩
          obtain ⟨a0, a1⟩ := hS.out.2.1.cell (jj + 1) (by omega)
          obtain ⟨b0, b1⟩ := hS.out.2.1.cell jj (by omega)
          obtain ⟨⟨p, r⟩, hx⟩ : ∃ c, Hid (Q.getD (jj + 1) nop = c) := ⟨_, Lib.hid rfl⟩
          obtain ⟨⟨p', r'⟩, hy⟩ : ∃ c, Hid (Q.getD jj nop = c) := ⟨_, Lib.hid rfl⟩
          rw [hx.out] at a0 a1
          rw [hy.out] at b0 b1
          dsimp only at a0 a1 b0 b1
          have sc := cmpI_any p r p' r'
          have hz := cmpI_neg p r p' r'
          obtain ⟨z, ez⟩ : ∃ z, Hid (cmpI p r p' r' = z) := ⟨_, Lib.hid rfl⟩
          rw [ez.out] at sc hz
          replace hz := Lib.hid (show ltP (p, r) (p', r') = decide (z < 0) from hz.symm)
          clear ez
          have d3 : IntKind.i64.wrap (jj : Int) = (jj : Int) := IntWalk.i64_in _ (by omega)
          have d2 : IntKind.i64.wrap ((jj : Int) + 1 - 1) = (jj : Int) := by rw [show (jj : Int) + 1 - 1 = jj by omega]; exact d3
          have i0 : (0 : Int) ≤ (jj : Int) := by omega
          have i1 : (jj : Int) < (n : Int) := by omega
          have i2 : (jj : Int) ≤ (n : Int) := by omega
          have e0 : (0 : Int) ≤ (jj : Int) + 1 := by omega
          have e1 : (jj : Int) + 1 < (n : Int) := by omega
          have e2 : (jj : Int) + 1 ≤ (n : Int) := by omega
          have e3 : (0 : Int) < (jj : Int) + 1 := by omega
          have c3 : ((jj : Int) + 1).toNat = jj + 1 := by omega
          by_cases hzz : z < 0
          · have R := Lib.hid (inI_up hS.out.1 hx.out hy.out (by rw [hz.out]; simpa using hzz))
            have R2 := Lib.hid hS.out.2
            clear hz hS
            go_upto_region 4 with fail
            refine wp_region_held_drew (S := fun w' => w'.cell? ⟨mb, (jj + 1) * 2, none⟩ = some (.int .i64 p) ∧ w'.cell? ⟨mb, (jj + 1) * 2 + 1, none⟩ = some (.int .i64 r) ∧ w'.cell? ⟨mb, jj * 2, none⟩ = some (.int .i64 p') ∧ w'.cell? ⟨mb, jj * 2 + 1, none⟩ = some (.int .i64 r') ∧ Below wr.heap.size wr w') (by kernel_rfl) ⟨a0, a1, b0, b1, Below.drew (Below.refl _ _)⟩ (fun hHeld => ?_)
            refine wpAnyH_take (i := 0) (oi := ⟨some 18, _, _, _, _, _⟩) (v := ?_) rfl (by kernel_rfl) (by kernel_rfl) (by kernel_rfl) (fun _ _ _ h => h) (Or.inl ⟨by rfl, ?_⟩) (by assumption) ?_
            rotate_left 1
            · intro w hSw; (try dsimp only at hSw); go_simp; try (with_reducible rfl)
            try simp only [Act.put, List.setIfInBounds_toArray, List.set_cons_zero, List.set_cons_succ]
            refine wpAnyH_take (i := 1) (oi := ⟨some 19, _, _, _, _, _⟩) (v := ?_) rfl (by kernel_rfl) (by kernel_rfl) (by kernel_rfl) (fun _ _ _ h => h) (Or.inl ⟨by rfl, ?_⟩) (by assumption) ?_
            rotate_left 1
            · intro w hSw; (try dsimp only at hSw); go_simp; try (with_reducible rfl)
            try simp only [Act.put, List.setIfInBounds_toArray, List.set_cons_zero, List.set_cons_succ]
            refine wpAnyH_take (i := 2) (oi := ⟨some 20, _, _, _, _, _⟩) (v := ?_) rfl (by kernel_rfl) (by kernel_rfl) (by kernel_rfl) (fun _ _ _ h => h) (Or.inl ⟨by rfl, ?_⟩) (by assumption) ?_
            rotate_left 1
            · intro w hSw; (try dsimp only at hSw); go_simp; try (with_reducible rfl)
            try simp only [Act.put, List.setIfInBounds_toArray, List.set_cons_zero, List.set_cons_succ]
            refine wpAnyH_take (i := 3) (oi := ⟨some 21, _, _, _, _, _⟩) (v := ?_) rfl (by kernel_rfl) (by kernel_rfl) (by kernel_rfl) (fun _ _ _ h => h) (Or.inl ⟨by rfl, ?_⟩) (by assumption) ?_
            rotate_left 1
            · intro w hSw; (try dsimp only at hSw); go_simp; try (with_reducible rfl)
            try simp only [Act.put, List.setIfInBounds_toArray, List.set_cons_zero, List.set_cons_succ]
            refine wpAnyH_take (i := 4) (oi := ⟨some 22, _, _, _, _, _⟩) (v := ?_) rfl (by kernel_rfl) (by kernel_rfl) (by kernel_rfl) (fun _ _ _ h => h) (Or.inl ⟨by rfl, ?_⟩) (by assumption) ?_
            rotate_left 1
            · intro w hSw; (try dsimp only at hSw); go_simp; try (with_reducible rfl)
            try simp only [Act.put, List.setIfInBounds_toArray, List.set_cons_zero, List.set_cons_succ]
            refine wpAnyH_take (i := 5) (oi := ⟨some 23, _, _, _, _, _⟩) (v := ?_) rfl (by kernel_rfl) (by kernel_rfl) (by kernel_rfl) (fun _ _ _ h => h) (Or.inl ⟨by rfl, ?_⟩) (by assumption) ?_
            rotate_left 1
            · intro w hSw; (try dsimp only at hSw); go_simp; try (with_reducible rfl)
            try simp only [Act.put, List.setIfInBounds_toArray, List.set_cons_zero, List.set_cons_succ]
            refine wpAnyH_take (i := 6) (oi := ⟨some 24, _, _, _, _, _⟩) (v := ?_) rfl (by kernel_rfl) (by kernel_rfl) (by kernel_rfl) (fun _ _ _ h => h) (Or.inl ⟨by rfl, ?_⟩) (by assumption) ?_
            rotate_left 1
            · intro w hSw; (try dsimp only at hSw); go_simp; try (with_reducible rfl)
            try simp only [Act.put, List.setIfInBounds_toArray, List.set_cons_zero, List.set_cons_succ]
            refine wpAnyH_take (i := 7) (oi := ⟨some 25, _, _, _, _, _⟩) (v := ?_) rfl (by kernel_rfl) (by kernel_rfl) (by kernel_rfl) (fun _ _ _ h => h) (Or.inl ⟨by rfl, ?_⟩) (by assumption) ?_
            rotate_left 1
            · intro w hSw; (try dsimp only at hSw); go_simp; try (with_reducible rfl)
            try simp only [Act.put, List.setIfInBounds_toArray, List.set_cons_zero, List.set_cons_succ]
            refine wpAnyH_take (i := 8) (oi := ⟨some 26, _, _, _, _, _⟩) (v := ?_) rfl (by kernel_rfl) (by kernel_rfl) (by kernel_rfl) (fun _ _ _ h => h) (Or.inl ⟨by rfl, ?_⟩) (by assumption) ?_
            rotate_left 1
            · intro w hSw; (try dsimp only at hSw); go_simp; try (with_reducible rfl)
            try simp only [Act.put, List.setIfInBounds_toArray, List.set_cons_zero, List.set_cons_succ]
            refine wpAnyH_take (i := 9) (oi := ⟨some 27, _, _, _, _, _⟩) (v := ?_) rfl (by kernel_rfl) (by kernel_rfl) (by kernel_rfl) (fun _ _ _ h => h) (Or.inl ⟨by rfl, ?_⟩) (by assumption) ?_
            rotate_left 1
            · intro w hSw; (try dsimp only at hSw); go_simp; try (with_reducible rfl)
            try simp only [Act.put, List.setIfInBounds_toArray, List.set_cons_zero, List.set_cons_succ]
            refine wpAnyH_take (i := 10) (oi := ⟨some 28, _, _, _, _, _⟩) (v := ?_) rfl (by kernel_rfl) (by kernel_rfl) (by kernel_rfl) (fun _ _ _ h => h) (Or.inl ⟨by rfl, ?_⟩) (by assumption) ?_
            rotate_left 1
            · intro w hSw; (try dsimp only at hSw); go_simp; try (with_reducible rfl)
            try simp only [Act.put, List.setIfInBounds_toArray, List.set_cons_zero, List.set_cons_succ]
            refine wpAnyH_take (i := 11) (oi := ⟨some 29, _, _, _, _, _⟩) (v := ?_) rfl (by kernel_rfl) (by kernel_rfl) (by kernel_rfl) (fun _ _ _ h => h) (Or.inl ⟨by rfl, ?_⟩) (by assumption) ?_
            rotate_left 1
            · intro w hSw; (try dsimp only at hSw); go_simp; try (with_reducible rfl)
            try simp only [Act.put, List.setIfInBounds_toArray, List.set_cons_zero, List.set_cons_succ]
            refine wpAnyH_take (i := 12) (oi := ⟨some 30, _, _, _, _, _⟩) (v := ?_) rfl (by kernel_rfl) (by kernel_rfl) (by kernel_rfl) (fun _ _ _ h => h) (Or.inl ⟨by rfl, ?_⟩) (by assumption) ?_
            rotate_left 1
            · intro w hSw; (try dsimp only at hSw); go_simp; try (with_reducible rfl)
            try simp only [Act.put, List.setIfInBounds_toArray, List.set_cons_zero, List.set_cons_succ]
            refine wpAnyH_take (i := 13) (oi := ⟨some 31, _, _, _, _, _⟩) (v := ?_) rfl (by kernel_rfl) (by kernel_rfl) (by kernel_rfl) (fun _ _ _ h => h) (Or.inl ⟨by rfl, ?_⟩) (by assumption) ?_
            rotate_left 1
            · intro w hSw; (try dsimp only at hSw); go_simp; try (with_reducible rfl)
            try simp only [Act.put, List.setIfInBounds_toArray, List.set_cons_zero, List.set_cons_succ]
            refine wpAnyH_ready (rs := [14]) (by kernel_rfl) (by simp) ?_
            refine AllReadyH.cons (o := ⟨some 32, _, _, _, _, _⟩) rfl (fun K hK => ?_) AllReadyH.nil
            go_simp
            refine (sc _).mono ?_
            rintro e w2 ⟨rfl, hb⟩
            go_wp2_with fail
            refine hK.out _ _ ?_ (fun hHeld2 => ?_)
            · exact ⟨cell_later hb hHeld.1, cell_later hb hHeld.2.1, cell_later hb hHeld.2.2.1, cell_later hb hHeld.2.2.2.1, hHeld.2.2.2.2.trans (hb.mono hHeld.2.2.2.2.size)⟩
            clear hK K hHeld hb
            have hHeld := hHeld2
            clear hHeld2
            try simp only [Act.put, List.setIfInBounds_toArray, List.set_cons_zero, List.set_cons_succ]
            refine wpAnyH_take (i := 15) (oi := ⟨some 33, _, _, _, _, _⟩) (v := ?_) rfl (by kernel_rfl) (by kernel_rfl) (by kernel_rfl) (fun _ _ _ h => h) (Or.inl ⟨by rfl, ?_⟩) (by assumption) ?_
            rotate_left 1
            · intro w hSw; (try dsimp only at hSw); go_simp; try (with_reducible rfl)
            try simp only [Act.put, List.setIfInBounds_toArray, List.set_cons_zero, List.set_cons_succ]
            refine wpAnyH_take (i := 16) (oi := ⟨some 34, _, _, _, _, _⟩) (v := ?_) rfl (by kernel_rfl) (by kernel_rfl) (by kernel_rfl) (fun _ _ _ h => h) (Or.inl ⟨by rfl, ?_⟩) (by assumption) ?_
            rotate_left 1
            · intro w hSw; (try dsimp only at hSw); go_simp; try (with_reducible rfl)
            try simp only [Act.put, List.setIfInBounds_toArray, List.set_cons_zero, List.set_cons_succ]
            refine wpAnyH_done (by kernel_rfl) ?_ _
            try simp only [Act.put, List.setIfInBounds_toArray, List.set_cons_zero, List.set_cons_succ]
            have R3 := Lib.hid (R2.out.1.same (hHeld.2.2.2.2.block mb R2.out.1.lt))
            have R4 := Lib.hid (R2.out.2.below hHeld.2.2.2.2)
            obtain ⟨a0, a1, b0, b1, hD⟩ := hHeld
            have f := fun m => R3.out.free m
            have fa0 := f ((jj + 1) * 2)
            have fa1 := f ((jj + 1) * 2 + 1)
            have fb0 := f (jj * 2)
            have fb1 := f (jj * 2 + 1)
            have hlen : jj + 1 < Q.length := by omega
            have P1 := R3.out.set (jj + 1) hlen (p', r')
            have P2 := Lib.hid (P1.set jj (by rw [List.length_set]; omega) (p, r))
            clear R2 f hD P1 R3
            go_wp2_with fail
            go_region
            go_wp2_with fail
            refine ⟨⟨jj, by omega, rfl, _, Lib.hid ⟨R.out, P2.out.drewI, swap_exi R4.out _ _ _ _ _ _ _ _⟩⟩, ?_⟩
            simp [intOf]
          · have R := Lib.hid (inI_end hS.out.1 hnd.out hx.out hy.out (by omega) (by rw [hz.out]; simpa using hzz))
            have R2 := Lib.hid hS.out.2
            clear hz hS
            go_upto_region 4 with fail
            refine wp_region_held_drew (S := fun w' => w'.cell? ⟨mb, (jj + 1) * 2, none⟩ = some (.int .i64 p) ∧ w'.cell? ⟨mb, (jj + 1) * 2 + 1, none⟩ = some (.int .i64 r) ∧ w'.cell? ⟨mb, jj * 2, none⟩ = some (.int .i64 p') ∧ w'.cell? ⟨mb, jj * 2 + 1, none⟩ = some (.int .i64 r') ∧ Below wr.heap.size wr w') (by kernel_rfl) ⟨a0, a1, b0, b1, Below.drew (Below.refl _ _)⟩ (fun hHeld => ?_)
            refine wpAnyH_take (i := 0) (oi := ⟨some 18, _, _, _, _, _⟩) (v := ?_) rfl (by kernel_rfl) (by kernel_rfl) (by kernel_rfl) (fun _ _ _ h => h) (Or.inl ⟨by rfl, ?_⟩) (by assumption) ?_
            rotate_left 1
            · intro w hSw; (try dsimp only at hSw); go_simp; try (with_reducible rfl)
            try simp only [Act.put, List.setIfInBounds_toArray, List.set_cons_zero, List.set_cons_succ]
            refine wpAnyH_take (i := 1) (oi := ⟨some 19, _, _, _, _, _⟩) (v := ?_) rfl (by kernel_rfl) (by kernel_rfl) (by kernel_rfl) (fun _ _ _ h => h) (Or.inl ⟨by rfl, ?_⟩) (by assumption) ?_
            rotate_left 1
            · intro w hSw; (try dsimp only at hSw); go_simp; try (with_reducible rfl)
            try simp only [Act.put, List.setIfInBounds_toArray, List.set_cons_zero, List.set_cons_succ]
            refine wpAnyH_take (i := 2) (oi := ⟨some 20, _, _, _, _, _⟩) (v := ?_) rfl (by kernel_rfl) (by kernel_rfl) (by kernel_rfl) (fun _ _ _ h => h) (Or.inl ⟨by rfl, ?_⟩) (by assumption) ?_
            rotate_left 1
            · intro w hSw; (try dsimp only at hSw); go_simp; try (with_reducible rfl)
            try simp only [Act.put, List.setIfInBounds_toArray, List.set_cons_zero, List.set_cons_succ]
            refine wpAnyH_take (i := 3) (oi := ⟨some 21, _, _, _, _, _⟩) (v := ?_) rfl (by kernel_rfl) (by kernel_rfl) (by kernel_rfl) (fun _ _ _ h => h) (Or.inl ⟨by rfl, ?_⟩) (by assumption) ?_
            rotate_left 1
            · intro w hSw; (try dsimp only at hSw); go_simp; try (with_reducible rfl)
            try simp only [Act.put, List.setIfInBounds_toArray, List.set_cons_zero, List.set_cons_succ]
            refine wpAnyH_take (i := 4) (oi := ⟨some 22, _, _, _, _, _⟩) (v := ?_) rfl (by kernel_rfl) (by kernel_rfl) (by kernel_rfl) (fun _ _ _ h => h) (Or.inl ⟨by rfl, ?_⟩) (by assumption) ?_
            rotate_left 1
            · intro w hSw; (try dsimp only at hSw); go_simp; try (with_reducible rfl)
            try simp only [Act.put, List.setIfInBounds_toArray, List.set_cons_zero, List.set_cons_succ]
            refine wpAnyH_take (i := 5) (oi := ⟨some 23, _, _, _, _, _⟩) (v := ?_) rfl (by kernel_rfl) (by kernel_rfl) (by kernel_rfl) (fun _ _ _ h => h) (Or.inl ⟨by rfl, ?_⟩) (by assumption) ?_
            rotate_left 1
            · intro w hSw; (try dsimp only at hSw); go_simp; try (with_reducible rfl)
            try simp only [Act.put, List.setIfInBounds_toArray, List.set_cons_zero, List.set_cons_succ]
            refine wpAnyH_take (i := 6) (oi := ⟨some 24, _, _, _, _, _⟩) (v := ?_) rfl (by kernel_rfl) (by kernel_rfl) (by kernel_rfl) (fun _ _ _ h => h) (Or.inl ⟨by rfl, ?_⟩) (by assumption) ?_
            rotate_left 1
            · intro w hSw; (try dsimp only at hSw); go_simp; try (with_reducible rfl)
            try simp only [Act.put, List.setIfInBounds_toArray, List.set_cons_zero, List.set_cons_succ]
            refine wpAnyH_take (i := 7) (oi := ⟨some 25, _, _, _, _, _⟩) (v := ?_) rfl (by kernel_rfl) (by kernel_rfl) (by kernel_rfl) (fun _ _ _ h => h) (Or.inl ⟨by rfl, ?_⟩) (by assumption) ?_
            rotate_left 1
            · intro w hSw; (try dsimp only at hSw); go_simp; try (with_reducible rfl)
            try simp only [Act.put, List.setIfInBounds_toArray, List.set_cons_zero, List.set_cons_succ]
            refine wpAnyH_take (i := 8) (oi := ⟨some 26, _, _, _, _, _⟩) (v := ?_) rfl (by kernel_rfl) (by kernel_rfl) (by kernel_rfl) (fun _ _ _ h => h) (Or.inl ⟨by rfl, ?_⟩) (by assumption) ?_
            rotate_left 1
            · intro w hSw; (try dsimp only at hSw); go_simp; try (with_reducible rfl)
            try simp only [Act.put, List.setIfInBounds_toArray, List.set_cons_zero, List.set_cons_succ]
            refine wpAnyH_take (i := 9) (oi := ⟨some 27, _, _, _, _, _⟩) (v := ?_) rfl (by kernel_rfl) (by kernel_rfl) (by kernel_rfl) (fun _ _ _ h => h) (Or.inl ⟨by rfl, ?_⟩) (by assumption) ?_
            rotate_left 1
            · intro w hSw; (try dsimp only at hSw); go_simp; try (with_reducible rfl)
            try simp only [Act.put, List.setIfInBounds_toArray, List.set_cons_zero, List.set_cons_succ]
            refine wpAnyH_take (i := 10) (oi := ⟨some 28, _, _, _, _, _⟩) (v := ?_) rfl (by kernel_rfl) (by kernel_rfl) (by kernel_rfl) (fun _ _ _ h => h) (Or.inl ⟨by rfl, ?_⟩) (by assumption) ?_
            rotate_left 1
            · intro w hSw; (try dsimp only at hSw); go_simp; try (with_reducible rfl)
            try simp only [Act.put, List.setIfInBounds_toArray, List.set_cons_zero, List.set_cons_succ]
            refine wpAnyH_take (i := 11) (oi := ⟨some 29, _, _, _, _, _⟩) (v := ?_) rfl (by kernel_rfl) (by kernel_rfl) (by kernel_rfl) (fun _ _ _ h => h) (Or.inl ⟨by rfl, ?_⟩) (by assumption) ?_
            rotate_left 1
            · intro w hSw; (try dsimp only at hSw); go_simp; try (with_reducible rfl)
            try simp only [Act.put, List.setIfInBounds_toArray, List.set_cons_zero, List.set_cons_succ]
            refine wpAnyH_take (i := 12) (oi := ⟨some 30, _, _, _, _, _⟩) (v := ?_) rfl (by kernel_rfl) (by kernel_rfl) (by kernel_rfl) (fun _ _ _ h => h) (Or.inl ⟨by rfl, ?_⟩) (by assumption) ?_
            rotate_left 1
            · intro w hSw; (try dsimp only at hSw); go_simp; try (with_reducible rfl)
            try simp only [Act.put, List.setIfInBounds_toArray, List.set_cons_zero, List.set_cons_succ]
            refine wpAnyH_take (i := 13) (oi := ⟨some 31, _, _, _, _, _⟩) (v := ?_) rfl (by kernel_rfl) (by kernel_rfl) (by kernel_rfl) (fun _ _ _ h => h) (Or.inl ⟨by rfl, ?_⟩) (by assumption) ?_
            rotate_left 1
            · intro w hSw; (try dsimp only at hSw); go_simp; try (with_reducible rfl)
            try simp only [Act.put, List.setIfInBounds_toArray, List.set_cons_zero, List.set_cons_succ]
            refine wpAnyH_ready (rs := [14]) (by kernel_rfl) (by simp) ?_
            refine AllReadyH.cons (o := ⟨some 32, _, _, _, _, _⟩) rfl (fun K hK => ?_) AllReadyH.nil
            go_simp
            refine (sc _).mono ?_
            rintro e w2 ⟨rfl, hb⟩
            go_wp2_with fail
            refine hK.out _ _ ?_ (fun hHeld2 => ?_)
            · exact ⟨cell_later hb hHeld.1, cell_later hb hHeld.2.1, cell_later hb hHeld.2.2.1, cell_later hb hHeld.2.2.2.1, hHeld.2.2.2.2.trans (hb.mono hHeld.2.2.2.2.size)⟩
            clear hK K hHeld hb
            have hHeld := hHeld2
            clear hHeld2
            try simp only [Act.put, List.setIfInBounds_toArray, List.set_cons_zero, List.set_cons_succ]
            refine wpAnyH_take (i := 15) (oi := ⟨some 33, _, _, _, _, _⟩) (v := ?_) rfl (by kernel_rfl) (by kernel_rfl) (by kernel_rfl) (fun _ _ _ h => h) (Or.inl ⟨by rfl, ?_⟩) (by assumption) ?_
            rotate_left 1
            · intro w hSw; (try dsimp only at hSw); go_simp; try (with_reducible rfl)
            try simp only [Act.put, List.setIfInBounds_toArray, List.set_cons_zero, List.set_cons_succ]
            refine wpAnyH_take (i := 16) (oi := ⟨some 34, _, _, _, _, _⟩) (v := ?_) rfl (by kernel_rfl) (by kernel_rfl) (by kernel_rfl) (fun _ _ _ h => h) (Or.inl ⟨by rfl, ?_⟩) (by assumption) ?_
            rotate_left 1
            · intro w hSw; (try dsimp only at hSw); go_simp; try (with_reducible rfl)
            try simp only [Act.put, List.setIfInBounds_toArray, List.set_cons_zero, List.set_cons_succ]
            refine wpAnyH_done (by kernel_rfl) ?_ _
            try simp only [Act.put, List.setIfInBounds_toArray, List.set_cons_zero, List.set_cons_succ]
            have R3 := Lib.hid (R2.out.1.same (hHeld.2.2.2.2.block mb R2.out.1.lt))
            have R4 := Lib.hid (R2.out.2.below hHeld.2.2.2.2)
            clear hHeld R2
            go_wp2_with fail
            go_roundw
            case rel => exact ⟨k + 1, by omega, by omega, by go_num, Q, Lib.hid ⟨R.out, R3.out, R4.out⟩⟩
            case measure => simp [intOf]; omega
    · obtain rfl : k = n := by omega
      go_wp2_with fail
      go_end0
      exact ⟨rfl, Q, hS.out.1, hS.out.2.1, hS.out.2.2⟩
end Go.Proofs.YtiolhjjkjmepcaaGreatDoor

/- slices.SortFunc at a few ids. -/
namespace Go.Proofs.YtiolhjjkjmepcaaGreatDoor
open Go.RowKit
set_option linter.unusedVariables false

set_option maxRecDepth 100000 in
set_option maxHeartbeats 4000000 in
theorem blen64_any (n : Nat) (w : World) (h : n ≤ 12) :
    Calls Tryz.prog 112 #[.int .u64 n] w fun e w' => (∃ z : Int, e = .returned (.int .i64 z)) ∧ w = w' := by
  rcases (show n = 0 ∨ n = 1 ∨ n = 2 ∨ n = 3 ∨ n = 4 ∨ n = 5 ∨ n = 6 ∨ n = 7 ∨ n = 8 ∨ n = 9 ∨ n = 10 ∨ n = 11 ∨ n = 12 by omega) with rfl | rfl | rfl | rfl | rfl | rfl | rfl | rfl | rfl | rfl | rfl | rfl | rfl
  all_goals
    go_enter Tryz.func112, Tryz.ntmps112
    go_wp2_with fail
    go_ret
    exact ⟨⟨_, rfl⟩, rfl⟩

set_option maxRecDepth 100000 in
set_option maxHeartbeats 4000000 in
theorem blen_any (n : Nat) (w : World) (h : n ≤ 12) :
    Calls Tryz.prog 101 #[.int .u64 n] w fun e w' => (∃ z : Int, e = .returned (.int .i64 z)) ∧ w = w' := by
  go_enter Tryz.func101, Tryz.ntmps101
  go_wp2_with fail
  refine (blen64_any n _ h).mono ?_
  rintro e w1 ⟨⟨z, rfl⟩, rfl⟩
  go_wp2_with fail
  go_ret
  exact ⟨⟨_, rfl⟩, rfl⟩

/-- What sorting leaves. -/
def SortI (Q0 : List Pid) (mb n cap : Nat) (w : World) (e : Ending) (w' : World) : Prop :=
  e = .returned (.tuple #[]) ∧ ∃ Q, SrI Q0 Q n ∧ OwnP w' mb (.slice (some ⟨mb, 0, none⟩) n cap) Q ∧ Exc (fun b => b = mb) w w'

set_option maxRecDepth 100000 in
set_option maxHeartbeats 4000000 in
theorem ipdq_at (mb cap n : Nat) (z : Int) (Q0 : List Pid) (w : World) (hn : Q0.length = n) (hnd : Q0.Nodup) (h1 : 1 ≤ n) (h2 : n ≤ 12) (hR : OwnP w mb (.slice (some ⟨mb, 0, none⟩) n cap) Q0) :
    Calls Tryz.prog 100 #[.slice (some ⟨mb, 0, none⟩) n cap, .int .i64 0, .int .i64 n, .int .i64 z, .func (.func 71) #[] #[]] w (SortI Q0 mb n cap w) := by
  have si := fun W (H : OwnP W mb (.slice (some ⟨mb, 0, none⟩) n cap) Q0) => iins_at mb cap n Q0 W hn hnd h1 h2 H
  unfold SortI
  have hR := Lib.hid hR
  have d3 : IntKind.i64.wrap (n : Int) = (n : Int) := IntWalk.i64_in _ (by omega)
  have h3 : (n : Int) ≤ 12 := by omega
  clear hnd hn
  go_enter Tryz.func100, Tryz.ntmps100
  go_wp2_with fail
  refine wp_loop_rounds 1 ?_
  rw [rounds_succ]
  go_wp2_with fail
  refine (si _ hR.out).mono ?_
  rintro e w1 ⟨rfl, hp⟩
  have hp := Lib.hid hp
  clear si
  go_wp2_with fail
  exact bodyPost_ret (results_none rfl _ _ _) rfl ⟨rfl, hp.out⟩

set_option maxRecDepth 100000 in
set_option maxHeartbeats 4000000 in
theorem isort2_at (mb cap n : Nat) (Q0 : List Pid) (w : World) (hn : Q0.length = n) (hnd : Q0.Nodup) (h1 : 1 ≤ n) (h2 : n ≤ 12) (hR : OwnP w mb (.slice (some ⟨mb, 0, none⟩) n cap) Q0) :
    Calls Tryz.prog 93 #[.slice (some ⟨mb, 0, none⟩) n cap, .func (.func 71) #[] #[]] w (SortI Q0 mb n cap w) := by
  have si := fun z => ipdq_at mb cap n z Q0 w hn hnd h1 h2 hR
  unfold SortI at si ⊢
  clear hnd hn hR
  have d3 : IntKind.u64.wrap (n : Int) = (n : Int) := by rw [IntKind.wrap_u64]; omega
  go_enter Tryz.func93, Tryz.ntmps93
  go_wp2_with fail
  refine (blen_any n _ h2).mono ?_
  rintro e w1 ⟨⟨z, rfl⟩, rfl⟩
  go_wp2_with fail
  refine (si z).mono ?_
  rintro e w1 ⟨rfl, hp⟩
  have hp := Lib.hid hp
  clear si
  go_wp2_with fail
  go_end0
  exact ⟨rfl, hp.out⟩
end Go.Proofs.YtiolhjjkjmepcaaGreatDoor
