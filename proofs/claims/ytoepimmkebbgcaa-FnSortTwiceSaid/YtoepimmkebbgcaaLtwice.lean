/- The walk of FnSortTwice. -/
import Derived.Test.YtoepimmkebbgcaaLsort
namespace Go.Proofs.Ytoepimmkebbgcaa
open Go.RowKit
set_option linter.unusedVariables false

theorem sortR_self {C : List Pid} (h1 : C.all okP = true) (h2 : (sortP C).length ≤ 12) : sortR (sortP C) = (sortP C, true) := by
  have e : sortP (sortP C) = sortP C := sortP_self (sortP_asc C)
  have ha : (sortP C).all okP = true := by
    rw [List.all_eq_true]
    intro x hx
    exact List.all_eq_true.1 h1 x ((sortP_mem C x).1 hx)
  rw [sortR_t ha (by rw [e]; exact h2), e]
theorem sortR_back {C : List Pid} (h1 : C.all okP = true) (h2 : (sortP C).length ≤ 12) : sortR C.reverse = (sortP C, true) := by
  rw [sortR_t (by rw [List.all_reverse]; exact h1) (by rw [sortP_rev]; exact h2), sortP_rev]
theorem back_next {C : List Pid} {j : Nat} (hj : j < C.length) : (C.drop (j + 1)).reverse ++ [C.getD j nop] = (C.drop j).reverse := by
  rw [drop_next hj, List.reverse_cons]

/-- What an append to a row in memory from B on leaves. -/
theorem back_put {w w1 w2 : World} {v v' : Value} {O : List Pid} {x y : Int} {o : Obj} (hR : Row w1 w.heap.size v O) (hown : w2.ownsRow w.heap.size 24 2 v' (O.length + 1) (flatP O ++ [.int .i64 x, .int .i64 y]))
    (hg : (w1.alloc o).grownBy w2 (Value.ownBlock v)) (hn : v' ≠ .slice none 0 0) (D : Below w.heap.size w w1) : Row w2 w.heap.size v' (O ++ [(x, y)]) ∧ Below w.heap.size w w2 := by
  have hR1 : Row (w1.alloc o) w.heap.size v O := hR.up ((Below.refl _ _).alloc (Nat.le_refl _) _)
  have B2 := grown_below hR1 hg (by have := D.size; simp; omega)
  exact ⟨hR.put hown hn, (D.alloc D.size o).trans B2⟩

set_option maxHeartbeats 8000000 in
theorem fnSortTwice_walk (a : Option Addr) (len cap : Nat) (w : World) (hc : CodeIn w a len cap) (hcap : cap ≤ maxLen) :
    Calls Try.prog 6 #[.slice a len cap] w fun e w' => e = .returned (.bool true) ∧ Below w.heap.size w w' := by
  have hm : cap ≤ 9223372036854775807 := by simpa [maxLen] using hcap
  have hlc := hc.1
  by_cases hl : 1048576 < len
  · clear hcap hc
    go_enter Try.func6, Try.ntmps6
    go_wp2_with fail
    go_ret
    exact ⟨rfl, Below.refl _ _⟩
  · have hc1 := Lib.hid hc
    have hcap1 := Lib.hid hcap
    clear hc hcap
    go_enter Try.func6, Try.ntmps6
    go_wp2_with fail
    refine (dids_any a len cap w hc1.out hcap1.out).mono ?_
    rintro e w1 ⟨u, C, rfl, hI, hCl, D1'⟩
    have D1 := Lib.hid D1'
    have hI := Lib.hid hI
    clear hc1 hcap1 D1'
    go_wp2_with fail
    refine (isort_any u C _ hI.out (by omega)).mono ?_
    rintro e w2 ⟨g, v, hg, rfl, hO, hb⟩
    have D2 := Lib.hid (bstep D1.out hb)
    have hI2 := Lib.hid (hI.out.up hb (Nat.le_refl _))
    have hO := Lib.hid hO
    clear hb hI D1
    go_wp2_with fail
    refine (ssort_any u C _ hI2.out (by omega)).mono ?_
    rintro e w3 ⟨g2, v2, hg2, rfl, hO2, hb⟩
    have D3 := Lib.hid (bstep D2.out hb)
    have hI3 := Lib.hid (hI2.out.up hb (Nat.le_refl _))
    have hO3 := Lib.hid (hO.out.up hb hO.out.lt)
    have hO2 := Lib.hid hO2
    clear hb hI2 D2 hO
    have hfl : Hid ((sortR C).2 = true → (sortR C).1 = sortP C ∧ C.all okP = true ∧ (sortP C).length ≤ 12) := Lib.hid sortR_yes
    generalize sortR C = R at hO2 hO3 hfl ⊢
    obtain ⟨S, f⟩ := R
    dsimp only at hO2 hO3 hfl ⊢
    go_wp2_with fail
    refine (same_any v v2 S _ hO3.out.read hO2.out.read).mono ?_
    rintro e w4 ⟨rfl, hb⟩
    have D4 := Lib.hid (bstep D3.out hb)
    have hI4 := Lib.hid (hI3.out.up hb (Nat.le_refl _))
    have hO4 := Lib.hid (hO3.out.up hb hO3.out.lt)
    have hP4 := Lib.hid (hO2.out.up hb hO2.out.lt)
    clear hb hI3 D3 hO3 hO2
    cases f
    · go_wp2_with fail
      refine (same_any v v2 S _ hO4.out.read hP4.out.read).mono ?_
      rintro e w5 ⟨rfl, hb⟩
      have D5 := Lib.hid (bstep D4.out hb)
      clear hb hI4 D4 hO4 hP4
      go_wp2_with fail
      go_ret
      exact ⟨rfl, D5.out⟩
    · obtain ⟨rfl, hall, hle⟩ := hfl.out rfl
      obtain ⟨cv, hv, hcv⟩ := hO4.out.shape
      have hgl := hO4.out.lt
      obtain ⟨S, hS⟩ : ∃ S, Hid (sortP C = S) := ⟨_, Lib.hid rfl⟩
      rw [hS.out] at hO4 hv hcv hle
      obtain ⟨n, hn⟩ : ∃ n, Hid (S.length = n) := ⟨_, Lib.hid rfl⟩
      rw [hn.out] at hv hcv hle
      subst hv
      have hs1 : Hid (sortR S = (S, true)) := Lib.hid (by rw [← hS.out]; exact sortR_self hall (by rw [hS.out, hn.out]; exact hle))
      have hs2 : Hid (sortR C.reverse = (S, true)) := Lib.hid (by rw [← hS.out]; exact sortR_back hall (by rw [hS.out, hn.out]; exact hle))
      clear hfl hP4 hall hS
      obtain ⟨i0, hi, hz0, hz1, hz2⟩ := info_parts infoP
      have R0 := Lib.hid (row_new w4 w4.heap.size (Nat.le_refl _))
      obtain ⟨b, cb, hu, hu1, hu2, hu3⟩ := hI4.out
      clear hI4
      subst hu
      obtain ⟨m, hmm⟩ : ∃ m, C.length = m := ⟨_, rfl⟩
      rw [hmm] at hu1 hu2 hu3 hCl ⊢
      have hmm := Lib.hid hmm
      go_wp2_with fail
      go_loopw [8, 9] (fun v i wr => ∃ j : Nat, j ≤ m ∧ i = .int .i64 ((j : Int) - 1) ∧ Hid (Row wr w4.heap.size v (C.drop j).reverse) ∧ Hid (Below w4.heap.size w4 wr)) (fun _ i _ => (intOf i + 1).toNat)
      case atStart => exact ⟨m, Nat.le_refl _, rfl, Lib.hid (by rw [List.drop_eq_nil_of_le (by rw [hmm.out]; exact Nat.le_refl _)]; exact R0.out), Lib.hid ((Below.refl _ _).alloc (Nat.le_refl _) _)⟩
      case round =>
        obtain ⟨j, hj, rfl, hR, hnx⟩ := hrel
        clear R0
        have hsz := hnx.out.size
        rcases j with _ | j
        · obtain ⟨o, ho, hown⟩ := hR.out.own (by rw [List.length_reverse, List.length_drop, hmm.out]; omega)
          rw [List.drop_zero] at hown
          have D5 := Lib.hid (bstep D4.out hnx.out)
          have hO5 := Lib.hid (hO4.out.up hnx.out hgl)
          have hown := Lib.hid hown
          clear hR hnx D4 hO4
          go_wp2_with fail
          refine (isort_any _ S _ hO5.out.read (by rw [hn.out]; omega)).mono ?_
          rw [show SortPost S = SortPost S from rfl]
          rintro e w6 ⟨g6, v6, hg6, rfl, hO6, hb⟩
          rw [hs1.out] at hO6 ⊢
          have D6 := Lib.hid (bstep D5.out hb)
          have hP6 := Lib.hid (hO5.out.up hb hO5.out.lt)
          have hown6 := Lib.hid (hown.out.up hb hown.out.lt)
          have hO6 := Lib.hid hO6
          clear hb D5 hO5 hown
          go_wp2_with fail
          refine (isort_any _ C.reverse _ hown6.out.read (by rw [List.length_reverse, hmm.out]; omega)).mono ?_
          rintro e w7 ⟨g7, v7, hg7, rfl, hO7, hb⟩
          rw [hs2.out] at hO7 ⊢
          have D7 := Lib.hid (bstep D6.out hb)
          have hP7 := Lib.hid (hP6.out.up hb hP6.out.lt)
          have hQ7 := Lib.hid (hO6.out.up hb hO6.out.lt)
          have hO7 := Lib.hid hO7
          clear hb D6 hP6 hown6 hO6
          go_wp2_with fail
          refine (same_any v6 _ S _ hQ7.out.read hP7.out.read).mono ?_
          rintro e w8 ⟨rfl, hb⟩
          have D8 := Lib.hid (bstep D7.out hb)
          have hP8 := Lib.hid (hP7.out.up hb hP7.out.lt)
          have hO8 := Lib.hid (hO7.out.up hb hO7.out.lt)
          clear hb D7 hP7 hQ7 hO7
          go_wp2_with fail
          refine (same_any v7 _ S _ hO8.out.read hP8.out.read).mono ?_
          rintro e w9 ⟨rfl, hb⟩
          have D9 := Lib.hid (bstep D8.out hb)
          clear hb D8 hP8 hO8
          go_wp2_with fail
          go_ret
          exact ⟨rfl, D9.out⟩
        · rcases hu3 with hu3 | ⟨b, off, rfl, hb1, hb2⟩
          · omega
          · obtain ⟨h0, h1⟩ := hb2 j (by omega)
            have q0 := cell_later hnx.out h0
            have q1 := cell_later hnx.out h1
            have hnext := Lib.hid (back_next (C := C) (j := j) (by rw [hmm.out]; omega))
            clear h0 h1 hb2 hO4 D4
            have hOl : (C.drop (j + 1)).reverse.length ≤ 13 := by rw [List.length_reverse, List.length_drop, hmm.out]; omega
            generalize (C.drop (j + 1)).reverse = O at hR hnext hOl
            generalize hc : C.getD j nop = c at q0 q1 hnext
            clear hc
            obtain ⟨p, r⟩ := c
            dsimp only at q0 q1
            have e1 : ((j + 1 : Nat) : Int) - 1 = (j : Int) := by omega
            rw [e1]
            have b0 : (0 : Int) ≤ (j : Int) := by omega
            have b1 : (j : Int) < (m : Int) := by omega
            have b2 : (j : Int) ≤ (m : Int) := by omega
            go_wp2_with (at_builtin; refine wpList_append_own _ rfl _ _ 30 rfl w4.heap.size 24 i0 (.agg #[.int .i64 0, .int .i64 0]) 2 16 Try.underlying30 hi hz0 hz1 hz2 rfl (by decide) _ _ _ rfl (hR.out.1.alloc _) ⟨wr.heap.size, 0, none⟩ 1 1 [.int .i64 p, .int .i64 r] rfl rfl ?c1 ?c2 ?c3 ?c4 ?c5 ?_)
            case c1 => exact two_cells _ _ _ _ _ (by simp)
            case c2 => intro u hu; simp at hu; rcases hu with rfl | rfl <;> rfl
            case c3 => unfold maxLen; omega
            case c4 => omega
            case c5 => simp; omega
            intro v' w5 hown' hgrow hnil
            have X := back_put hR.out hown' hgrow (fun e => hnil e) hnx.out
            rw [hnext.out] at X
            have hR' := Lib.hid X.1
            have hD' := Lib.hid X.2
            clear X hown' hgrow hnil hR hnx q0 q1 hnext
            go_wp2_with fail
            go_roundw
            case rel => exact ⟨j, by omega, by go_num, hR', hD'⟩
            case measure => simp [intOf]
end Go.Proofs.Ytoepimmkebbgcaa
