/- Texts laid together. -/
import Derived.Test.YtbbnchodchgioaaDoorC05
import Derived.Test.YtbbnchodchgioaaDoorC11
import Derived.Test.YtbbnchodchgioaaDoorC17
import Derived.Test.YtbbnchodchgioaaDoorC18
import Derived.Test.YtbbnchodchgioaaDoorC13
import Derived.Deep.RegionWith
/- The walk of FnGroupSame. -/
namespace Go.Proofs.YtbbnchodchgioaaDoor
open Go.RowKit
set_option linter.unusedVariables false

set_option maxRecDepth 100000 in
set_option maxHeartbeats 8000000 in
theorem fnGroupSame_walk (a : Option Addr) (len cap : Nat) (a2 : Option Addr) (len2 cap2 : Nat) (w : World) (hc : CodeIn w a len cap) (hcap : cap ≤ maxLen) (hc2 : CodeIn w a2 len2 cap2) (hcap2 : cap2 ≤ maxLen) (hT : TabIn w) :
    Calls Tryd.prog 7 #[.slice a len cap, .slice a2 len2 cap2] w fun e w' => e = .returned (.bool true) ∧ Below w.heap.size w w' := by
  have hm : cap ≤ 9223372036854775807 := by simpa [maxLen] using hcap
  have hlc := hc.1
  have hm2 : cap2 ≤ 9223372036854775807 := by simpa [maxLen] using hcap2
  have hlc2 := hc2.1
  by_cases hl : 1048576 < len
  · clear hcap hc hT hc2 hcap2
    go_enter Tryd.func7, Tryd.ntmps7
    go_wp2_with fail
    go_ret
    exact ⟨rfl, Below.refl _ _⟩
  · by_cases hl2 : 1048576 < len2
    · clear hcap hc hT hc2 hcap2
      go_enter Tryd.func7, Tryd.ntmps7
      go_wp2_with fail
      go_ret
      exact ⟨rfl, Below.refl _ _⟩
    · have hc1 := Lib.hid hc
      have hcap1 := Lib.hid hcap
      replace hT := Lib.hid hT
      clear hc hcap hc2 hcap2
      go_enter Tryd.func7, Tryd.ntmps7
      go_wp2_with fail
      refine (dng_any a len cap w hc1.out hcap1.out).mono ?_
      rintro e w0 ⟨u, N, x, y, rfl, hN, hNp, hNl, B⟩
      replace hT := Lib.hid (hT.out.up B (Nat.le_refl _))
      have D := Lib.hid B
      have A0 := heap_alloc_new w0 (.cells #[.int .i64 x, .int .i64 y] 25)
      have B0 := (Below.refl w0.heap.size w0).alloc (Nat.le_refl _) (.cells #[.int .i64 x, .int .i64 y] 25)
      have iv := igroup_any u N x y _ (hN.up B0 (Nat.le_refl _)) (hT.out.up B0 (Nat.le_refl _))
      have hT := Lib.hid (hT.out.up B0 (Nat.le_refl _))
      have hN := Lib.hid (hN.up B0 (Nat.le_refl _))
      replace D := Lib.hid (bstep D.out B0)
      obtain ⟨a0, a1, _, _⟩ := blk2 A0
      have A0 := Lib.hid A0
      clear hc1 hcap1 B B0
      go_wp2_with fail
      refine iv.mono ?_
      rintro e w1 ⟨b1, v1, hb1, rfl, hO, B⟩
      have hO := Lib.hid hO
      replace A0 := Lib.hid (bblk B (by simp) A0.out)
      obtain ⟨S, hS⟩ : ∃ S, Hid (groupR N (x, y) = S) := ⟨_, Lib.hid rfl⟩
      have hSl := groupR_len N (x, y)
      rw [hS.out] at hO hSl
      replace hT := Lib.hid (hT.out.up B (Nat.le_refl _))
      replace hN := Lib.hid (hN.out.up B (Nat.le_refl _))
      replace D := Lib.hid (bstep D.out B)
      clear B iv a0 a1
      obtain ⟨a0, a1, _, _⟩ := blk2 A0.out
      have hal := lt_of_heap A0.out
      have sv := sgroupM_any u N x y _ hN.out
      rw [hS.out] at sv
      go_wp2_with fail
      refine sv.mono ?_
      rintro e w2 ⟨b2, v2, hb2, rfl, hP, B⟩
      have hP := Lib.hid hP
      replace hO := Lib.hid (hO.out.up B hO.out.lt)
      replace A0 := Lib.hid (bblk B (lt_of_heap A0.out) A0.out)
      replace hT := Lib.hid (hT.out.up B (Nat.le_refl _))
      replace hN := Lib.hid (hN.out.up B (Nat.le_refl _))
      replace D := Lib.hid (bstep D.out B)
      clear B sv a0 a1 hal
      obtain ⟨a0, a1, _, _⟩ := blk2 A0.out
      have hal := lt_of_heap A0.out
      have sm := fun W (hb : Below w2.heap.size w2 W) => same_any _ _ S W (hO.out.read.up hb (Nat.le_refl _)) (hP.out.read.up hb (Nat.le_refl _))
      go_wp2_with fail
      refine (sm _ (Below.refl _ _)).mono ?_
      rintro e w3 ⟨rfl, B⟩
      replace hO := Lib.hid (hO.out.up B hO.out.lt)
      replace hP := Lib.hid (hP.out.up B hP.out.lt)
      replace A0 := Lib.hid (bblk B (lt_of_heap A0.out) A0.out)
      replace hT := Lib.hid (hT.out.up B (Nat.le_refl _))
      replace hN := Lib.hid (hN.out.up B (Nat.le_refl _))
      replace D := Lib.hid (bstep D.out B)
      clear B a0 a1 hal sm
      obtain ⟨a0, a1, _, _⟩ := blk2 A0.out
      have hal := lt_of_heap A0.out
      obtain ⟨pc, rfl, hpc⟩ := hP.out.shape
      obtain ⟨oc, rfl, hoc⟩ := hO.out.shape
      obtain ⟨ns, hns⟩ : ∃ n, Hid (S.length = n) := ⟨_, Lib.hid rfl⟩
      have hsc := Lib.hid hO.out.cell
      have hol := hO.out.lt
      rw [hns.out] at hoc hpc hSl hO hP ⊢
      rcases Nat.eq_zero_or_pos ns with hz | hz
      · subst hz
        go_wp2_with fail
        refine (same_any _ _ S _ hO.out.read hP.out.read).mono ?_
        rintro e w9 ⟨rfl, B⟩
        replace D := Lib.hid (bstep D.out B)
        clear B
        go_wp2_with fail
        go_ret
        exact ⟨rfl, D.out⟩
      · have hn0 : ((ns : Int) == 0) = false := by simp; omega
        obtain ⟨j, hj⟩ : ∃ j : Nat, j = len2 % ns := ⟨_, rfl⟩
        have hjn : j < ns := by rw [hj]; exact Nat.mod_lt _ hz
        have hmod : (len2 : Int).tmod (ns : Int) = (j : Int) := by rw [hj, Int.tmod_eq_emod_of_nonneg (by omega)]; exact (Int.natCast_emod _ _).symm
        have hjS : j < S.length := by rw [hns.out]; exact hjn
        clear hj
        obtain ⟨c0, c1⟩ := hsc.out j hjS
        have hin : S.getD j nop ∈ groupR N (x, y) := by rw [hS.out]; exact getD_inL hjS
        generalize S.getD j nop = d at c0 c1 hin
        obtain ⟨p, q⟩ := d
        dsimp only at c0 c1
        have hgs := group_same hin
        rw [hS.out] at hgs
        clear hin
        have iv := igroup_any u N p q _ hN.out hT.out
        rw [hgs] at iv
        clear hgs
        go_wp2_with fail
        refine iv.mono ?_
        rintro e w4 ⟨b4, v4, hb4, rfl, hX, B⟩
        replace hO := Lib.hid (hO.out.up B hO.out.lt)
        replace D := Lib.hid (bstep D.out B)
        have hX := Lib.hid hX
        clear B iv c0 c1 hP hN hT
        go_wp2_with fail
        refine (same_any _ _ S _ hX.out.read hO.out.read).mono ?_
        rintro e w9 ⟨rfl, B⟩
        replace D := Lib.hid (bstep D.out B)
        clear B
        go_wp2_with fail
        go_ret
        exact ⟨rfl, D.out⟩
end Go.Proofs.YtbbnchodchgioaaDoor

/- The program's NodesReady. -/
namespace Go.Proofs.YtbbnchodchgioaaDoor
open Go.RowKit
set_option linter.unusedVariables false

set_option maxRecDepth 100000 in
theorem iready_any (u : Value) (N : List Nd) (x y : Int) (w : World) (h : Nds w u N) :
    Calls Tryd.prog 24 #[u, .agg #[.int .i64 x, .int .i64 y]] w fun e w' => e = .returned (.bool (readyR N (x, y))) ∧ Below w.heap.size w w' := by
  have D0 := (Below.refl w.heap.size w).alloc (Nat.le_refl _) (.cells #[.int .i64 x, .int .i64 y] 25)
  have gr := gwith_any u N x y _ (h.up D0 (Nat.le_refl _))
  have D0 := Lib.hid D0
  clear h
  go_enter Tryd.func24, Tryd.ntmps24
  go_wp2_with fail
  refine gr.mono ?_
  rintro e w1 ⟨gb, f, r, rd, rfl, hG, B⟩
  obtain ⟨mv, hb⟩ := hG.gb
  have c11 := hb.c11
  have hl := hb.lt
  have hr := Lib.hid hG.rdy
  have D1 := Lib.hid (bstep D0.out B)
  clear gr B hG hb D0
  go_wp2_with fail
  go_ret
  first | exact ⟨ret_bool hr.out, D1.out⟩ | exact ⟨hr.out, D1.out⟩
end Go.Proofs.YtbbnchodchgioaaDoor

/- The walk of FnReady. -/
namespace Go.Proofs.YtbbnchodchgioaaDoor
open Go.RowKit
set_option linter.unusedVariables false

set_option maxRecDepth 100000 in
set_option maxHeartbeats 8000000 in
theorem fnReady_walk (a : Option Addr) (len cap : Nat) (w : World) (hc : CodeIn w a len cap) (hcap : cap ≤ maxLen) (hT : TabIn w) :
    Calls Tryd.prog 8 #[.slice a len cap] w fun e w' => e = .returned (.bool true) ∧ Below w.heap.size w w' := by
  have hm : cap ≤ 9223372036854775807 := by simpa [maxLen] using hcap
  have hlc := hc.1
  by_cases hl : 1048576 < len
  · clear hcap hc hT
    go_enter Tryd.func8, Tryd.ntmps8
    go_wp2_with fail
    go_ret
    exact ⟨rfl, Below.refl _ _⟩
  · have hc1 := Lib.hid hc
    have hcap1 := Lib.hid hcap
    replace hT := Lib.hid hT
    clear hc hcap
    go_enter Tryd.func8, Tryd.ntmps8
    go_wp2_with fail
    refine (dny_any a len cap w hc1.out hcap1.out).mono ?_
    rintro e w0 ⟨u, N, x, y, rfl, hN, hNp, hNl, B⟩
    replace hT := Lib.hid (hT.out.up B (Nat.le_refl _))
    have D := Lib.hid B
    have A0 := heap_alloc_new w0 (.cells #[.int .i64 x, .int .i64 y] 25)
    have B0 := (Below.refl w0.heap.size w0).alloc (Nat.le_refl _) (.cells #[.int .i64 x, .int .i64 y] 25)
    have iv := iready_any u N x y _ (hN.up B0 (Nat.le_refl _))
    have hT := Lib.hid (hT.out.up B0 (Nat.le_refl _))
    have hN := Lib.hid (hN.up B0 (Nat.le_refl _))
    replace D := Lib.hid (bstep D.out B0)
    obtain ⟨a0, a1, _, _⟩ := blk2 A0
    have A0 := Lib.hid A0
    clear hc1 hcap1 B B0
    go_wp2_with fail
    refine iv.mono ?_
    rintro e w1 ⟨rfl, B⟩
    replace A0 := Lib.hid (bblk B (by simp) A0.out)
    replace hT := Lib.hid (hT.out.up B (Nat.le_refl _))
    replace hN := Lib.hid (hN.out.up B (Nat.le_refl _))
    replace D := Lib.hid (bstep D.out B)
    clear B iv a0 a1
    obtain ⟨a0, a1, _, _⟩ := blk2 A0.out
    have hal := lt_of_heap A0.out
    have sv := sready_any u N x y _ hN.out
    go_wp2_with fail
    refine sv.mono ?_
    rintro e w2 ⟨rfl, B⟩
    replace A0 := Lib.hid (bblk B (lt_of_heap A0.out) A0.out)
    replace hT := Lib.hid (hT.out.up B (Nat.le_refl _))
    replace hN := Lib.hid (hN.out.up B (Nat.le_refl _))
    replace D := Lib.hid (bstep D.out B)
    clear B sv a0 a1 hal
    obtain ⟨a0, a1, _, _⟩ := blk2 A0.out
    have hal := lt_of_heap A0.out
    cases hq : readyR N (x, y) with
    | false =>
      clear hq
      go_wp2_with fail
      go_ret
      exact ⟨rfl, D.out⟩
    | true =>
      have hq := Lib.hid hq
      have iv := ireach_any u N x y _ hN.out hT.out
      go_wp2_with fail
      refine iv.mono ?_
      rintro e w4 ⟨b4, v4, hb4, rfl, hX, B⟩
      replace A0 := Lib.hid (bblk B (lt_of_heap A0.out) A0.out)
      replace hT := Lib.hid (hT.out.up B (Nat.le_refl _))
      replace hN := Lib.hid (hN.out.up B (Nat.le_refl _))
      replace D := Lib.hid (bstep D.out B)
      clear B iv a0 a1 hal
      obtain ⟨a0, a1, _, _⟩ := blk2 A0.out
      have hal := lt_of_heap A0.out
      have hxl := hX.lt
      have hXl := reachR_len N (x, y)
      have hxs := Lib.hid hX.cell
      obtain ⟨xc, rfl, hxc⟩ := hX.shape
      have hX := Lib.hid hX
      obtain ⟨X, hXr⟩ : ∃ X, Hid (reachR N (x, y) = X) := ⟨_, Lib.hid rfl⟩
      rw [hXr.out] at hX hxc hXl hxs ⊢
      obtain ⟨nx, hnx⟩ : ∃ n, Hid (X.length = n) := ⟨_, Lib.hid rfl⟩
      rw [hnx.out] at hxc hXl hX ⊢
      have hN' := hN.out
      obtain ⟨ga, cp, rfl, h1, h2, h3⟩ := hN'
      rcases h3 with h3 | ⟨g, off, rfl, h4, h5⟩
      · omega
      · obtain ⟨U, hA⟩ := NdAt.of h4 h5
        have hA := Lib.hid hA
        obtain ⟨nn, hnn⟩ : ∃ n, Hid (N.length = n) := ⟨_, Lib.hid rfl⟩
        rw [hnn.out] at hNp hNl h1 h2 hN ⊢
        clear h4 h5
        obtain ⟨ab, hab⟩ : ∃ b, Hid (w0.heap.size = b) := ⟨_, Lib.hid rfl⟩
        rw [hab.out] at a0 a1 hal ⊢
        clear A0
        clear hX
        go_wp2_with fail
        go_loopw [8] (fun iv wr => ∃ i : Nat, i ≤ nx ∧ iv = .int .i64 i ∧ Hid (Below w4.heap.size w4 wr)) (fun iv _ => nx - (intOf iv).toNat)
        case atStart => exact ⟨0, Nat.zero_le _, rfl, Lib.hid (Below.refl _ _)⟩
        case round =>
          obtain ⟨i, hi, rfl, hE⟩ := hrel
          by_cases hlti : i < nx
          · have hiX : i < X.length := by rw [hnx.out]; exact hlti
            obtain ⟨y0, y1⟩ := hxs.out i hiX
            have hst := ready_reach hq.out (x := X.getD i nop) (by rw [hXr.out]; exact getD_inL hiX)
            generalize X.getD i nop = d at y0 y1 hst
            obtain ⟨p2, q2⟩ := d
            dsimp only at y0 y1
            have y0 := (hE.out.cell (p := ⟨b4, i * 2, none⟩) hxl).trans y0
            have y1 := (hE.out.cell (p := ⟨b4, i * 2 + 1, none⟩) hxl).trans y1
            have hxl2 := Nat.lt_of_lt_of_le hxl hE.out.size
            have lh := iready_any _ N p2 q2 wr (hN.out.up hE.out (Nat.le_refl _))
            rw [hst] at lh
            clear hst
            go_wp2_with fail
            refine lh.mono ?_
            rintro e w5 ⟨rfl, B⟩
            have E2 := Lib.hid (bstep hE.out B)
            clear B lh y0 y1
            go_wp2_with fail
            refine ⟨⟨i + 1, by omega, by go_num, E2⟩, ?_⟩
            simp [intOf]; omega
          · have hgi : ¬ ((i : Int) < nx) := by omega
            go_wp2_with fail
            go_loopw [9] (fun kv wr => ∃ k : Nat, k ≤ nn ∧ kv = .int .i64 k ∧ Hid (Below w4.heap.size w4 wr)) (fun kv _ => nn - (intOf kv).toNat)
            case atStart => exact ⟨0, Nat.zero_le _, rfl, hE⟩
            case round =>
              clear hE
              obtain ⟨k, hk, rfl, hE⟩ := hrel
              by_cases hltk : k < nn
              · have hkN : k < N.length := by rw [hnn.out]; exact hltk
                have hA2 := hA.out.up hE.out (Nat.le_refl _)
                obtain ⟨x0, x1, _, x3⟩ := hA2.cell k hkN
                have hI2 := Lib.hid (hA2.ids k hkN)
                have hgl := hA2.lt
                obtain ⟨d2, hd2⟩ : ∃ d, Hid ((N.getD k nd0).id = d) := ⟨_, Lib.hid rfl⟩
                obtain ⟨L2, hL2⟩ : ∃ d, Hid ((N.getD k nd0).deps = d) := ⟨_, Lib.hid rfl⟩
                rw [hd2.out] at x0 x1
                rw [hL2.out] at hI2
                generalize U k = uu at x3 hI2
                obtain ⟨ua, un, uc⟩ := uu
                obtain ⟨p2, q2⟩ := d2
                dsimp only at x0 x1 x3 hI2
                clear hA2
                have a0 := (hE.out.cell (p := ⟨ab, 0, none⟩) hal).trans a0
                have a1 := (hE.out.cell (p := ⟨ab, 1, none⟩) hal).trans a1
                have hal2 := Nat.lt_of_lt_of_le hal hE.out.size
                have e2 := fun W => eq_id p2 q2 x y W
                obtain ⟨z2, hz2⟩ : ∃ z, decide ((p2, q2) = (x, y)) = z := ⟨_, rfl⟩
                rw [hz2] at e2
                have hun : un = L2.length := by obtain ⟨_, _, e, _⟩ := hI2.out; injection e
                subst hun
                obtain ⟨un, hun⟩ : ∃ n, Hid (L2.length = n) := ⟨_, Lib.hid rfl⟩
                rw [hun.out] at x3
                clear hI2
                cases z2
                · clear hz2
                  go_upto_region 17 with fail
                  go_quiet (fail)
                  generalize hwd : wr.drewN nq = wd
                  have Bd : Below wr.heap.size wr wd := by rw [← hwd]; exact bdrewN (Below.refl _ _) _
                  clear hwd
                  have E2 := Lib.hid (bstep hE.out Bd)
                  go_wp2_with fail
                  refine ⟨⟨k + 1, by omega, by go_num, E2⟩, ?_⟩
                  simp [intOf]; omega
                · have hle : ¬ ((nx : Int) < (un : Int)) := by
                    have := ready_len hq.out hkN (by rw [hd2.out]; exact of_decide_eq_true hz2)
                    rw [hL2.out, hun.out, hXr.out, hnx.out] at this
                    omega
                  clear hz2
                  go_upto_region 17 with fail
                  go_quiet (fail)
                  generalize hwd : wr.drewN nq = wd
                  have Bd : Below wr.heap.size wr wd := by rw [← hwd]; exact bdrewN (Below.refl _ _) _
                  clear hwd
                  have E2 := Lib.hid (bstep hE.out Bd)
                  go_wp2_with fail
                  refine ⟨⟨k + 1, by omega, by go_num, E2⟩, ?_⟩
                  simp [intOf]; omega
              · obtain rfl : k = nn := by omega
                have D2 := Lib.hid (bstep D.out hE.out)
                go_wp2_with fail
                go_ret
                exact ⟨rfl, D2.out⟩
end Go.Proofs.YtbbnchodchgioaaDoor
