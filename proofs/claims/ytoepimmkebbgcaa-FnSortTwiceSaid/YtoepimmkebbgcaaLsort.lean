/- The walk of FnSort. -/
import Derived.Test.YtoepimmkebbgcaaIsort
import Derived.Test.YtoepimmkebbgcaaDids
import Derived.Test.YtoepimmkebbgcaaLhas
import Derived.Test.YtoepimmkebbgcaaLsame
namespace Go.Proofs.Ytoepimmkebbgcaa
open Go.RowKit
set_option linter.unusedVariables false

theorem befB_val' {k v k' v' : Int} (h1 : idB k v = true) (h2 : idB k' v' = true) (h : ltB k v k' v' = true) : befB k v k' v' = true := by unfold befB; rw [h1, h2, h]; rfl
theorem sortR_yes {L : List Pid} (h : (sortR L).2 = true) : (sortR L).1 = sortP L ∧ L.all okP = true ∧ (sortP L).length ≤ 12 := by
  unfold sortR at h ⊢
  split at h
  · rename_i hh; rw [if_pos hh]; exact ⟨rfl, hh.1, hh.2⟩
  · cases h
theorem okP_sort {L : List Pid} (h : L.all okP = true) {i : Nat} (hi : i < (sortP L).length) : okP ((sortP L).getD i nop) = true := by
  have hm : (sortP L).getD i nop ∈ sortP L := by
    rw [List.getD_eq_getElem?_getD, List.getElem?_eq_getElem hi]; exact List.getElem_mem _
  exact List.all_eq_true.1 h _ ((sortP_mem L _).1 hm)
theorem has_sort {L : List Pid} {i : Nat} (hi : i < (sortP L).length) : hasP L ((sortP L).getD i nop) = true := by
  unfold hasP; rw [decide_eq_true_iff, ← sortP_mem]
  rw [List.getD_eq_getElem?_getD, List.getElem?_eq_getElem hi]; exact List.getElem_mem _
theorem has_list {L : List Pid} {i : Nat} (hi : i < L.length) : hasP (sortP L) (L.getD i nop) = true := by
  unfold hasP; rw [decide_eq_true_iff, sortP_mem]
  rw [List.getD_eq_getElem?_getD, List.getElem?_eq_getElem hi]; exact List.getElem_mem _

theorem lsS_drew {W wr w' : World} {g j : Nat} {p r p' r' : Int} (h : (wr.cell? ⟨g, j * 2, none⟩ = some (.int .i64 p) ∧ wr.cell? ⟨g, j * 2 + 1, none⟩ = some (.int .i64 r) ∧ wr.cell? ⟨g, (j + 1) * 2, none⟩ = some (.int .i64 p') ∧ wr.cell? ⟨g, (j + 1) * 2 + 1, none⟩ = some (.int .i64 r')) ∧ Below W.heap.size W wr) (e : w' = wr.drew) :
    (w'.cell? ⟨g, j * 2, none⟩ = some (.int .i64 p) ∧ w'.cell? ⟨g, j * 2 + 1, none⟩ = some (.int .i64 r) ∧ w'.cell? ⟨g, (j + 1) * 2, none⟩ = some (.int .i64 p') ∧ w'.cell? ⟨g, (j + 1) * 2 + 1, none⟩ = some (.int .i64 r')) ∧ Below W.heap.size W w' := by
  subst e; exact ⟨h.1, h.2.drew⟩
theorem lsS_up {W wr w' : World} {g j : Nat} {p r p' r' : Int} (B : Below wr.heap.size wr w') (h : (wr.cell? ⟨g, j * 2, none⟩ = some (.int .i64 p) ∧ wr.cell? ⟨g, j * 2 + 1, none⟩ = some (.int .i64 r) ∧ wr.cell? ⟨g, (j + 1) * 2, none⟩ = some (.int .i64 p') ∧ wr.cell? ⟨g, (j + 1) * 2 + 1, none⟩ = some (.int .i64 r')) ∧ Below W.heap.size W wr) :
    (w'.cell? ⟨g, j * 2, none⟩ = some (.int .i64 p) ∧ w'.cell? ⟨g, j * 2 + 1, none⟩ = some (.int .i64 r) ∧ w'.cell? ⟨g, (j + 1) * 2, none⟩ = some (.int .i64 p') ∧ w'.cell? ⟨g, (j + 1) * 2 + 1, none⟩ = some (.int .i64 r')) ∧ Below W.heap.size W w' :=
  ⟨⟨cell_later B h.1.1, cell_later B h.1.2.1, cell_later B h.1.2.2.1, cell_later B h.1.2.2.2⟩, bstep h.2 B⟩

set_option maxHeartbeats 8000000 in
theorem fnSort_walk (a : Option Addr) (len cap : Nat) (w : World) (hc : CodeIn w a len cap) (hcap : cap ≤ maxLen) :
    Calls Try.prog 5 #[.slice a len cap] w fun e w' => e = .returned (.bool true) ∧ Below w.heap.size w w' := by
  have hm : cap ≤ 9223372036854775807 := by simpa [maxLen] using hcap
  have hlc := hc.1
  by_cases hl : 1048576 < len
  · clear hcap hc
    go_enter Try.func5, Try.ntmps5
    go_wp2_with fail
    go_ret
    exact ⟨rfl, Below.refl _ _⟩
  · have hc1 := Lib.hid hc
    have hcap1 := Lib.hid hcap
    clear hc hcap
    go_enter Try.func5, Try.ntmps5
    go_wp2_with fail
    refine (dids_any a len cap w hc1.out hcap1.out).mono ?_
    rintro e w1 ⟨u, C, rfl, hI, hCl, D1'⟩
    have D1 := Lib.hid D1'
    have hI := Lib.hid hI
    clear hc1 hcap1 D1'
    go_wp2_with fail
    refine (isort_any u C _ hI.out (by omega)).mono ?_
    rintro e w2 ⟨g, v, hg, rfl, hO, hb⟩
    have D2 := Lib.hid (bstep D1.out hb)
    have hI2 := Lib.hid (hI.out.up hb (Nat.le_refl _))
    have hO := Lib.hid hO
    clear hb hI D1
    go_wp2_with fail
    refine (ssort_any u C _ hI2.out (by omega)).mono ?_
    rintro e w3 ⟨g2, v2, hg2, rfl, hO2, hb⟩
    have D3 := Lib.hid (bstep D2.out hb)
    have hI3 := Lib.hid (hI2.out.up hb (Nat.le_refl _))
    have hO3 := Lib.hid (hO.out.up hb hO.out.lt)
    have hO2 := Lib.hid hO2
    clear hb hI2 D2 hO
    have hfl : Hid ((sortR C).2 = true → (sortR C).1 = sortP C ∧ C.all okP = true ∧ (sortP C).length ≤ 12) := Lib.hid sortR_yes
    generalize sortR C = R at hO2 hO3 hfl ⊢
    obtain ⟨S, f⟩ := R
    dsimp only at hO2 hO3 hfl ⊢
    go_wp2_with fail
    refine (same_any v v2 S _ hO3.out.read hO2.out.read).mono ?_
    rintro e w4 ⟨rfl, hb⟩
    have D4 := Lib.hid (bstep D3.out hb)
    have hI4 := Lib.hid (hI3.out.up hb (Nat.le_refl _))
    have hO4 := Lib.hid (hO3.out.up hb hO3.out.lt)
    have hP4 := Lib.hid (hO2.out.up hb hO2.out.lt)
    clear hb hI3 D3 hO3 hO2
    cases f
    · go_wp2_with fail
      refine (same_any v v2 S _ hO4.out.read hP4.out.read).mono ?_
      rintro e w5 ⟨rfl, hb⟩
      have D5 := Lib.hid (bstep D4.out hb)
      clear hb hI4 D4 hO4 hP4
      go_wp2_with fail
      go_ret
      exact ⟨rfl, D5.out⟩
    · obtain ⟨rfl, hall, hle⟩ := hfl.out rfl
      obtain ⟨cv, hv, hcv⟩ := hO4.out.shape
      have hgl := hO4.out.lt
      obtain ⟨S, hS⟩ : ∃ S, Hid (sortP C = S) := ⟨_, Lib.hid rfl⟩
      rw [hS.out] at hO4 hv hcv hle
      obtain ⟨n, hn⟩ : ∃ n, Hid (S.length = n) := ⟨_, Lib.hid rfl⟩
      rw [hn.out] at hv hcv hle
      subst hv
      have hval : Hid (∀ i, i < n → okP (S.getD i nop) = true) := Lib.hid fun i hi => by rw [← hS.out]; exact okP_sort hall (by rw [hS.out, hn.out]; exact hi)
      have hasc : Hid (Asc S) := Lib.hid (by rw [← hS.out]; exact sortP_asc C)
      have hin1 : Hid (∀ i, i < n → hasP C (S.getD i nop) = true) := Lib.hid fun i hi => by rw [← hS.out]; exact has_sort (by rw [hS.out, hn.out]; exact hi)
      have hin2 : Hid (∀ i, i < C.length → hasP S (C.getD i nop) = true) := Lib.hid fun i hi => by rw [← hS.out]; exact has_list hi
      clear hfl hP4 hall hS
      go_wp2_with fail
      go_loopw [8] (fun i wr => ∃ j : Nat, i = .int .i64 ((j : Int) + 1) ∧ (j + 1 ≤ n ∨ j = 0) ∧ Hid (Below w4.heap.size w4 wr)) (fun i _ => n - (intOf i).toNat)
      case atStart => exact ⟨0, rfl, .inr rfl, Lib.hid (Below.refl _ _)⟩
      case round =>
        obtain ⟨j, rfl, hj, hnx⟩ := hrel
        have hj2 : j ≤ 12 := by omega
        by_cases hlt : j + 1 < n
        · have hO5 := hO4.out.up hnx.out hgl
          obtain ⟨q0, q1⟩ := hO5.cell j (by rw [hn.out]; omega)
          obtain ⟨r0, r1⟩ := hO5.cell (j + 1) (by rw [hn.out]; omega)
          have k1 := hval.out j (by omega)
          have k2 := hval.out (j + 1) hlt
          have k3 := asc_lt hasc.out (Nat.lt_succ_self j) (by rw [hn.out]; exact hlt)
          have k3' : ltP (S.getD j nop) (S.getD (j + 1) nop) = true := k3
          clear k3
          generalize S.getD j nop = c at q0 q1 k1 k3'
          generalize S.getD (j + 1) nop = c' at r0 r1 k2 k3'
          obtain ⟨p, r⟩ := c
          obtain ⟨p', r'⟩ := c'
          dsimp only at q0 q1 r0 r1
          have sc := ibef_any p r p' r'
          rw [befB_val' k1 k2 k3'] at sc
          have S0 : Hid ((wr.cell? ⟨g, j * 2, none⟩ = some (.int .i64 p) ∧ wr.cell? ⟨g, j * 2 + 1, none⟩ = some (.int .i64 r) ∧ wr.cell? ⟨g, (j + 1) * 2, none⟩ = some (.int .i64 p') ∧ wr.cell? ⟨g, (j + 1) * 2 + 1, none⟩ = some (.int .i64 r')) ∧ Below w4.heap.size w4 wr) := Lib.hid ⟨⟨q0, q1, r0, r1⟩, hnx.out⟩
          clear hO5 q0 q1 r0 r1 k1 k2 k3' hnx hO4 hI4 hval hasc hin1 hin2
          have b0 : (0 : Int) ≤ (j : Int) := by omega
          have b1 : (j : Int) < (n : Int) := by omega
          have b2 : (j : Int) ≤ (n : Int) := by omega
          have c0 : (0 : Int) ≤ (j : Int) + 1 := by omega
          have c1 : (j : Int) + 1 < (n : Int) := by omega
          have c2 : (j : Int) + 1 ≤ (n : Int) := by omega
          have d3 : IntKind.i64.wrap (j : Int) = (j : Int) := IntWalk.i64_in _ (by omega)
          have d2 : IntKind.i64.wrap ((j : Int) + 1 - 1) = (j : Int) := by rw [show (j : Int) + 1 - 1 = j by omega]; exact d3
          have c3 : ((j : Int) + 1).toNat = j + 1 := by omega
          go_upto_region 11 with fail
          go_region_held3 (fun w' => (w'.cell? ⟨g, j * 2, none⟩ = some (.int .i64 p) ∧ w'.cell? ⟨g, j * 2 + 1, none⟩ = some (.int .i64 r) ∧ w'.cell? ⟨g, (j + 1) * 2, none⟩ = some (.int .i64 p') ∧ w'.cell? ⟨g, (j + 1) * 2 + 1, none⟩ = some (.int .i64 r')) ∧ Below w4.heap.size w4 w') (first | exact lsS_drew S0.out rfl | exact lsS_up (by assumption) (by assumption))
            (first | (go_at_call 12; (with_reducible refine (sc _).mono ?_); rintro e w' ⟨rfl, hb⟩))
          rename_i hHeld
          go_wp2_with fail
          go_roundw
          case rel => exact ⟨j + 1, by go_num, by omega, Lib.hid hHeld.2⟩
          case measure => simp [intOf]; omega
        · have D5 := Lib.hid (bstep D4.out hnx.out)
          have hI5 := Lib.hid (hI4.out.up hnx.out (Nat.le_refl _))
          have hO5 := Lib.hid (hO4.out.up hnx.out hgl)
          have hgl5 := hO5.out.lt
          clear hval hasc hnx hO4 hI4 D4
          go_wp2_with fail
          go_loopw [9] (fun i wr2 => ∃ k : Nat, k ≤ n ∧ i = .int .i64 k ∧ Hid (Below wr.heap.size wr wr2)) (fun i _ => n - (intOf i).toNat)
          case atStart => exact ⟨0, Nat.zero_le _, rfl, Lib.hid (Below.refl _ _)⟩
          case round =>
            obtain ⟨k, hk, rfl, hnx⟩ := hrel
            by_cases hlt2 : k < n
            · obtain ⟨q0, q1⟩ := (hO5.out.up hnx.out hgl5).cell k (by rw [hn.out]; exact hlt2)
              have hI6 := hI5.out.up hnx.out (Nat.le_refl _)
              have hh := hin1.out k hlt2
              generalize S.getD k nop = c at q0 q1 hh
              obtain ⟨p, r⟩ := c
              dsimp only at q0 q1
              have sc := lhas_any u C p r _ hI6
              rw [hh] at sc
              clear hI6 hO5 hI5 hh hin1 hin2 D5
              go_wp2_with fail
              refine sc.mono ?_
              rintro e w6 ⟨rfl, B⟩
              have D6 := Lib.hid (bstep hnx.out B)
              clear B hnx sc q0 q1
              go_wp2_with fail
              go_roundw
              case rel => exact ⟨k + 1, by omega, by go_num, D6⟩
              case measure => simp [intOf]; omega
            · have D6 := Lib.hid (bstep D5.out hnx.out)
              have hO6 := Lib.hid (hO5.out.up hnx.out hgl5)
              have hI6 := Lib.hid (hI5.out.up hnx.out (Nat.le_refl _))
              have hgl6 := hO6.out.lt
              obtain ⟨b, cb, hu, hu1, hu2, hu3⟩ := hI6.out
              clear hO5 hI5 hin1 D5 hnx hI6
              subst hu
              go_wp2_with fail
              go_loopw [10] (fun i wr3 => ∃ k : Nat, k ≤ C.length ∧ i = .int .i64 k ∧ Hid (Below wr.heap.size wr wr3)) (fun i _ => C.length - (intOf i).toNat)
              case atStart => exact ⟨0, Nat.zero_le _, rfl, Lib.hid (Below.refl _ _)⟩
              case round =>
                obtain ⟨k3, hk3, rfl, hnx⟩ := hrel
                by_cases hlt3 : k3 < C.length
                · rcases hu3 with hu3 | ⟨b, off, rfl, hb1, hb2⟩
                  · omega
                  · obtain ⟨h0, h1⟩ := hb2 k3 hlt3
                    have q0 := cell_later hnx.out h0
                    have q1 := cell_later hnx.out h1
                    have hh := hin2.out k3 hlt3
                    have hI7 := (hO6.out.up hnx.out hgl6).read
                    clear h0 h1 hb2
                    generalize C.getD k3 nop = c at q0 q1 hh
                    obtain ⟨p, r⟩ := c
                    dsimp only at q0 q1
                    have sc := lhas_any _ S p r _ hI7
                    rw [hh] at sc
                    clear hI7 hO6 hh hin2 D6
                    go_wp2_with fail
                    refine sc.mono ?_
                    rintro e w7 ⟨rfl, B⟩
                    have D7 := Lib.hid (bstep hnx.out B)
                    clear B hnx sc q0 q1
                    go_wp2_with fail
                    go_roundw
                    case rel => exact ⟨k3 + 1, by omega, by go_num, D7⟩
                    case measure => simp [intOf]; omega
                · have D7 := Lib.hid (bstep D6.out hnx.out)
                  clear hu3 hO6 hin2 D6 hnx
                  go_wp2_with fail
                  go_ret
                  exact ⟨rfl, D7.out⟩
end Go.Proofs.Ytoepimmkebbgcaa
