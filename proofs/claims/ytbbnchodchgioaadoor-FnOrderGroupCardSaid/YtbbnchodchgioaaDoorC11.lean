/- Texts laid together. -/
import Derived.Test.YtbbnchodchgioaaDoorC05
import Derived.Test.YtbbnchodchgioaaDoorC10
import Derived.Test.YtbbnchodchgioaaDoorC13
import Derived.Test.YtbbnchodchgioaaDoorC17
import Derived.Test.YtbbnchodchgioaaDoorC18
/- The program's gather. -/
namespace Go.Proofs.YtbbnchodchgioaaDoor
open Go.RowKit
set_option linter.unusedVariables false

/-- What gathering leaves. -/
def GatP (N : List Nd) (U : Us) (S : List Nat) (gs : List Nat) (fb : Nat) (v0 sv : Value) (m : Nat) (met : Nat → Nat) (fo : Nat → Option Nat) (w : World) (e : Ending) (w' : World) : Prop :=
  e = .returned (.tuple #[]) ∧ ∃ gb gv', w.heap.size ≤ gb ∧ Fi w' fb v0 sv gv' m met (fun i => if i ∈ S then some gb else fo i) ∧ w'.ownsRow (fb + 1) 59 1 gv' (gs ++ [gb]).length ((gs ++ [gb]).map pv) ∧ (∀ i ∈ S, Grp w' gb N U i) ∧ Exc (fun b => b = fb ∨ fb < b ∧ Typ w b 59) w w'

set_option maxRecDepth 100000 in
set_option maxHeartbeats 4000000 in
theorem gather_any (fb g off cp sb so sc : Nat) (gv sv : Value) (N : List Nd) (U : Us) (S gs : List Nat) (m : Nat) (met : Nat → Nat) (fo : Nat → Option Nat) (w0 w : World)
    (hv : nodB N = true) (hA : NdAt w0 g off N U) (h0 : w0.heap.size ≤ fb) (hbel : Below fb w0 w)
    (hF : Fi w fb (.slice (some ⟨g, off, none⟩) N.length cp) sv gv m met fo) (hS : GS N S) (hS0 : 0 < S.length)
    (hsb : Typ w sb 3) (hP : ∀ i, i < S.length → w.cell? ⟨sb, so + i, none⟩ = some (nv (S.getD i 0)))
    (hG : w.ownsRow (fb + 1) 59 1 gv gs.length (gs.map pv)) (hgl : gs.length ≤ 12)
    (hO : ∀ i ∈ S, ∀ j, EN N i j → ¬ j ∈ S → ∃ b, fo j = some b ∧ Grp w b N U j) :
    Calls Tryd.prog 83 #[.pointer (some ⟨fb, 0, none⟩), .slice (some ⟨sb, so, none⟩) S.length sc] w (GatP N U S gs fb (.slice (some ⟨g, off, none⟩) N.length cp) sv m met fo w) := by
  obtain ⟨i0, hi, hz0, hz1, hz2⟩ := info_parts infoN
  have hSl := hS.len hv
  have hNl := (nod_of hv).1
  have hv := Lib.hid hv
  have hA := Lib.hid hA
  have hS := Lib.hid hS
  have hF := Lib.hid hF
  have hP := Lib.hid hP
  have hG := Lib.hid hG
  have hO := Lib.hid hO
  have hbel := Lib.hid hbel
  have hflt := hF.out.lt
  have hsne : Hid (sb ≠ fb) := Lib.hid (hsb.ne hF.out.typ (by decide))
  obtain ⟨n, hn⟩ : ∃ n, Hid (S.length = n) := ⟨_, Lib.hid rfl⟩
  obtain ⟨nn, hnn⟩ : ∃ n, Hid (N.length = n) := ⟨_, Lib.hid rfl⟩
  rw [hn.out] at hSl hS0 ⊢
  rw [hnn.out] at hNl hF ⊢
  go_enter Tryd.func83, Tryd.ntmps83
  go_wp2_with fail
  go_loopw [17] (fun i wr => ∃ (k : Nat) (mv : Value) (f : Nat → Nat), k ≤ n ∧ i = .int .i64 k ∧ Hid (G1 N U fb w.heap.size (.slice (some ⟨g, off, none⟩) nn cp) sv gv m met fo w wr (S.take k) mv mv (S.take k) f (S.take k))) (fun i _ => n - (intOf i).toNat)
  case atStart =>
    refine ⟨0, .slice none 0 0, fun _ => 0, Nat.zero_le _, rfl, Lib.hid ⟨(hF.out.same ?_).found_ext fun i _ => ?_, ?_, Bits.zero.ext fun x => ?_, World.ownsRow_nil _ _ _ _, ?_, hflt, rfl⟩⟩
    · exact heap_alloc_old _ _ hflt
    · simp
    · exact ⟨_, heap_alloc_new w _, rfl, rfl, fun k hk => by rcases (show k = 0 ∨ k = 1 ∨ k = 2 ∨ k = 3 ∨ k = 4 by omega) with rfl | rfl | rfl | rfl | rfl <;> rfl, fun k hk => by rcases (show k = 0 ∨ k = 1 ∨ k = 2 ∨ k = 3 ∨ k = 4 by omega) with rfl | rfl | rfl | rfl | rfl <;> rfl, rfl⟩
    · simp [SI]
    · exact (Exc.refl _ _).alloc _
  case round =>
    obtain ⟨k, mv, f, hk, rfl, h1⟩ := hrel
    by_cases hlt : k < n
    · have hkS : k < S.length := by rw [hn.out]; exact hlt
      have c0 : wr.cell? ⟨sb, so + k, none⟩ = some (nv (S.getD k 0)) := by
        rw [← hP.out k hkS]
        have := h1.out.exc.block sb hsb.lt hsne.out
        simp [World.cell?, this]
      have hpS : S.getD k 0 ∈ S := by rw [List.getD_eq_getElem?_getD, List.getElem?_eq_getElem hkS]; exact List.getElem_mem hkS
      have hpn := hS.out.lt _ hpS
      have hA1 := Lib.hid (hA.out.up (h1.out.bel hbel.out) h0)
      have hok := Lib.hid (nod_okI hv.out (List.mem_map_of_mem (f := Nd.id) (getD_mem hpn)))
      have tk := Lib.hid (take_snoc hkS)
      obtain ⟨p, hp⟩ : ∃ p, Hid (S.getD k 0 = p) := ⟨_, Lib.hid rfl⟩
      rw [hp.out] at c0 hpn
      have tk := Lib.hid (tk.out.trans (by rw [hp.out]))
      have hok := hok.out
      rw [hp.out] at hok
      have hok := Lib.hid hok
      rw [hnn.out] at hpn
      unfold nv at c0
      have p12 : p < 12 := by omega
      have pi : (p : Int) < 12 := by omega
      have d0 := h1.out.fi.foc p12
      have e0 := h1.out.fi.free (15 + p)
      have hfl := h1.out.fi.lt
      have h2 := Lib.hid (h1.out.found p12)
      clear hpS h1
      go_upto_region 5 with fail
      obtain ⟨W1, hW1⟩ : ∃ W, wr.setCell ⟨fb, 15 + p, none⟩ (.pointer (some ⟨w.heap.size, 0, none⟩)) = W := ⟨_, rfl⟩
      rw [hW1]
      have h2 : Hid (G1 N U fb w.heap.size (.slice (some ⟨g, off, none⟩) nn cp) sv gv m met fo w W1 (S.take k ++ [p]) mv mv (S.take k) f (S.take k)) := Lib.hid (by rw [← hW1]; exact h2.out)
      have hA1 : Hid (NdAt W1 g off N U) := Lib.hid (hA.out.up (h2.out.bel hbel.out) h0)
      clear hW1 d0 e0 hfl c0
      have m0 := h2.out.grp.c0
      have m1 := h2.out.grp.free 0
      have ml := h2.out.grp.lt
      obtain ⟨v0, _, _, _⟩ := h2.out.fi.cells
      have hfl := h2.out.fi.lt
      obtain ⟨x0, x1, x2, x3⟩ := hA1.out.cell p (by rw [hnn.out]; exact hpn)
      have hgl := hA1.out.lt
      have rw5 := Lib.hid (h2.out.low (Below.drew (Below.refl _ _)))
      have ndd := Lib.hid (ndc_def N U p)
      have hap := Lib.hid (fun (o : Obj) (w' : World) (v' : Value) => G1.app (p := p) (w' := w') (v' := v') (rw5.out.low ((Below.refl _ _).alloc (Nat.le_refl _) o)))
      generalize (N.getD p nd0).id.1 = a0 at x0 ndd
      generalize (N.getD p nd0).id.2 = a1 at x1 ndd
      generalize (N.getD p nd0).seq = a2 at x2 ndd
      generalize (U p).1 = ua at x3 ndd
      generalize (U p).2.1 = un at x3 ndd
      generalize (U p).2.2 = uc at x3 ndd
      rw [ndd.out] at hap
      have tkl : (S.take k).length = k := by rw [List.length_take]; omega
      rw [tkl] at hap
      have rr := rw5.out.row
      rw [tkl] at rr
      have rr := Lib.hid rr
      clear h2 rw5
      go_region_law (first | (rw [if_pos (by rfl)]; refine wp_append_own _ _ _ 23 rfl (w.heap.size + 1) 32 i0 (.agg #[.int .i64 0, .int .i64 0, .int .i64 0, .slice none 0 0]) 4 48 Tryd.underlying23 hi hz0 hz1 hz2 rfl (by decide) mv k (flatN N U (S.take k)) rfl (rr.out.alloc (.cells #[.int .i64 a0, .int .i64 a1, .int .i64 a2, .slice ua un uc] 32)) ⟨W1.heap.size, 0, none⟩ 1 1 [.int .i64 a0, .int .i64 a1, .int .i64 a2, .slice ua un uc] rfl rfl (four_src _ _ _ _ _ _ _ (by simp)) (four_one _ _ _ _ _ _) (by unfold maxLen; omega) (by omega) (by simp; omega) ?_; intro v4 w4 hown4 hgrow4 hnil4; obtain ⟨g4, c4, rfl⟩ := own_some hown4 (by omega); have X4 := Lib.hid (hap.out _ w4 _ hown4 hgrow4); have m4 := X4.out.grp.c0; have f4 := X4.out.grp.free 0; have X5 := Lib.hid X4.out.store; clear hown4 hgrow4 hnil4 hap rr X4 m0 m1 x0 x1 x2 x3 v0))
      clear hA1 ndd
      all_goals
        obtain ⟨W5, hW5⟩ : ∃ W, w4.setCell ⟨w.heap.size, 0, none⟩ (.slice (some ⟨g4, 0, none⟩) (k + 1) c4) = W := ⟨_, rfl⟩
        rw [hW5] at X5 ⊢
        clear hW5 m4 f4 tkl
        have X6 := Lib.hid (X5.out.low (Below.drew (Below.refl _ _)))
        have hA1 : Hid (NdAt W5 g off N U) := Lib.hid (hA.out.up (X5.out.bel hbel.out) h0)
        obtain ⟨v0, _, _, _⟩ := X5.out.fi.cells
        have hfl := X5.out.fi.lt
        have hgl := X5.out.grp.lt
        obtain ⟨x0, x1, _, _⟩ := hA1.out.cell p (by rw [hnn.out]; exact hpn)
        have hgg := hA1.out.lt
        obtain ⟨pr, nr, he, hpr, hnr⟩ := ok_nat hok.out
        rw [he] at x0 x1
        dsimp only at x0 x1
        have sc := add_at w.heap.size 1 pr nr (f pr) W5.drew hpr hnr X6.out.grp.lt (X6.out.grp.cf hpr) (X6.out.grp.free _) (X6.out.bits.lt hpr)
        have put := Lib.hid (fun (W : World) (hb : Below W5.drew.heap.size W5.drew W) => (X6.out.low hb).add he hpr hok.out)
        clear X5 X6 hA1 he
        go_wp2_with fail
        go_region_with (go_at_call 90; (with_reducible refine sc.mono ?_); rintro e w6 ⟨rfl, w7, hb, rfl⟩; have R := Lib.hid (put.out w7 hb); clear hb put)
        all_goals
          go_wp2_with fail
          go_roundw
          case rel => exact ⟨k + 1, _, _, by omega, by go_num, Lib.hid (by rw [tk.out]; exact R.out)⟩
          case measure => simp [intOf]; omega
    · obtain rfl : k = n := by omega
      have tS : S.take k = S := List.take_of_length_le (by rw [hn.out]; exact Nat.le_refl _)
      rw [tS] at h1
      obtain ⟨mb, mc, rfl, hmb, hR, hTy, hmc⟩ := rowN_of h1.out.row (by rw [hn.out]; exact hS0)
      have hpl : Hid (∀ q ∈ S, q < N.length) := Lib.hid hS.out.lt
      have srt := nsort_at mb mc N U S wr hv.out hpl.out hS.out.nd (by rw [hn.out]; omega) (by rw [hn.out]; exact hSl) hR
      rw [hn.out] at srt
      have m0 := h1.out.grp.c0
      rw [hn.out] at m0
      have hgl1 := h1.out.grp.lt
      clear hR
      go_wp2_with fail
      refine srt.mono ?_
      rintro e w1 ⟨rfl, Q, hQ, hRN, hE⟩
      have hql := hQ.perm.length_eq
      have hM : Hid (M2 N U S Q fb w.heap.size mb mc (.slice (some ⟨g, off, none⟩) nn cp) sv gv m met fo w w1 f (fun _ => 0) true) := by
        have hl := h1.out.lt
        refine Lib.hid ⟨h1.out.fi.same (hE.block fb h1.out.fi.lt (by omega)), ?_, hRN, ?_, ?_, hF.out.typ, hl, rfl, by omega⟩
        · rw [hql]; exact h1.out.grp.same (hE.block _ h1.out.grp.lt (by omega))
        · exact hRN.typ
        · exact h1.out.exc.trans hE (fun b hb e => by omega)
      have hfb := Lib.hid h1.out.bits
      have hQ := Lib.hid hQ
      rw [hn.out] at hql
      clear h1 hRN hE srt tS hTy m0 hgl1
      have m0 := hM.out.grp.c0
      rw [hql] at m0
      have hgl1 := hM.out.grp.lt
      go_wp2_with fail
      go_loopw [66] (fun i wr => ∃ (j : Nat) (r : Nat → Nat) (rd : Bool) (P : Pid → Prop), j ≤ k ∧ i = .int .i64 j ∧ Hid (M2 N U S Q fb w.heap.size mb mc (.slice (some ⟨g, off, none⟩) nn cp) sv gv m met fo w wr f r rd ∧ Bits r P ∧ GL N S (depsL N Q j 0) P rd)) (fun i _ => k - (intOf i).toNat)
      case atStart => exact ⟨0, _, _, _, Nat.zero_le _, rfl, Lib.hid ⟨hM.out, Bits.zero, by rw [depsL_start]; exact GL.start N S⟩⟩
      case round =>
        clear hM m0 hgl1
        obtain ⟨j, r, rd, P, hj, rfl, hS2⟩ := hrel
        by_cases hjl : j < k
        · obtain ⟨c0, c1, c2, c3⟩ := hS2.out.1.row.cell (i := j) (by rw [hql]; exact hjl)
          have hQm : Q.getD j 0 ∈ S := hQ.out.perm.mem_iff.1 (by rw [List.getD_eq_getElem?_getD, List.getElem?_eq_getElem (by omega)]; exact List.getElem_mem _)
          have drow := Lib.hid (depsL_row (N := N) (Q := Q) (j := j) (by omega))
          have dnx := Lib.hid (fun kk => depsL_next (N := N) (Q := Q) (j := j) (k := kk))
          obtain ⟨q, hq⟩ : ∃ q, Hid (Q.getD j 0 = q) := ⟨_, Lib.hid rfl⟩
          rw [hq.out] at c0 c1 c2 c3 hQm drow dnx
          have hQm := Lib.hid hQm
          have hml := hS2.out.1.row.lt
          obtain ⟨dl, hdl⟩ : ∃ n, Hid ((N.getD q nd0).deps.length = n) := ⟨_, Lib.hid rfl⟩
          have hids := hA.out.ids q (by have := hS.out.lt q hQm.out; omega)
          obtain ⟨ua, uc, hue, hds⟩ := hids
          injection hue with e1 e2 e3
          rw [e1, e2, e3, hdl.out] at c3
          rw [hdl.out] at hds drow dnx
          have hds := Lib.hid hds
          clear e1 e2 e3
          generalize (N.getD q nd0).id.1 = a0 at c0
          generalize (N.getD q nd0).id.2 = a1 at c1
          generalize (N.getD q nd0).seq = a2 at c2
          go_wp2_with fail
          go_loopw [73] (fun i wr2 => ∃ (kk : Nat) (r : Nat → Nat) (rd : Bool) (P : Pid → Prop), kk ≤ dl ∧ i = .int .i64 kk ∧ Hid (M2 N U S Q fb w.heap.size mb mc (.slice (some ⟨g, off, none⟩) nn cp) sv gv m met fo w wr2 f r rd ∧ Bits r P ∧ GL N S (depsL N Q j kk) P rd)) (fun i _ => dl - (intOf i).toNat)
          case atStart => exact ⟨0, r, rd, P, Nat.zero_le _, rfl, Lib.hid ⟨hS2.out.1.low ((Below.refl _ _).alloc (Nat.le_refl _) _), hS2.out.2.1, hS2.out.2.2⟩⟩
          case round =>
            clear hS2 c0 c1 c2 c3 hml
            obtain ⟨kk, r, rd, P, hkk, rfl, hT⟩ := hrel
            by_cases hkl : kk < dl
            · obtain ⟨db, dof, rfl, hdb, hdc⟩ := hds.out.2.2.resolve_left (by omega)
              obtain ⟨x0, x1⟩ := hdc kk hkl
              clear hdc
              have B2 := hT.out.1.bel hbel.out
              have x0 := (B2.cell (p := ⟨db, dof + kk * 2, none⟩) (Nat.lt_of_lt_of_le hdb h0)).trans x0
              have x1 := (B2.cell (p := ⟨db, dof + kk * 2 + 1, none⟩) (Nat.lt_of_lt_of_le hdb h0)).trans x1
              have hdb2 : db < wr.heap.size := Nat.lt_of_lt_of_le (Nat.lt_of_lt_of_le hdb h0) (by have := hT.out.1.lt; have := hT.out.1.grp.lt; omega)
              have hdm : (N.getD q nd0).deps.getD kk nop ∈ (N.getD q nd0).deps := getD_memP (by rw [hdl.out]; exact hkl)
              have dn1 := dnx.out kk hkl
              obtain ⟨d, hd⟩ : ∃ d, Hid ((N.getD q nd0).deps.getD kk nop = d) := ⟨_, Lib.hid rfl⟩
              rw [hd.out] at x0 x1 hdm dn1
              obtain ⟨dr, dn⟩ := d
              dsimp only at x0 x1
              have hdm := Lib.hid hdm
              have dn1 := Lib.hid dn1
              have hTa := Lib.hid (hT.out.1.low ((Below.refl _ _).alloc (Nat.le_refl _) (.cells #[.int .i64 dr, .int .i64 dn] 25)))
              have hAa := Lib.hid (hA.out.up (hTa.out.bel hbel.out) h0)
              have pl := place_any fb g off cp N dr dn _ hv.out hAa.out.lt hAa.out.ins (by rw [hnn.out]; exact hTa.out.fi.cells.1)
              have hbox := Lib.hid (heap_alloc_new wr (.cells #[.int .i64 dr, .int .i64 dn] 25))
              clear B2 hdb
              by_cases hid : (dr, dn) ∈ idsN N
              · rw [show hasP (idsN N) (dr, dn) = true from decide_eq_true hid] at pl
                obtain ⟨hp1, hp2⟩ := pos_node hv.out hid
                obtain ⟨pr, nr, he, hpr, hnr⟩ := ok_nat (nod_okI hv.out hid)
                obtain ⟨p, hp⟩ : ∃ p, Hid (posP (idsN N) (dr, dn) = p) := ⟨_, Lib.hid rfl⟩
                rw [hp.out] at pl hp1 hp2
                obtain ⟨rfl, rfl⟩ := Prod.mk.inj he
                have hE : EN N q p := ⟨hS.out.lt q hQm.out, hp1, by rw [hp2]; exact hdm.out⟩
                obtain ⟨gb2, hgb2, come⟩ := come_any hTa.out hT.out.2.1 hT.out.2.2 hv.out hS.out hO.out hQm.out hE hp2
                have come := Lib.hid come
                have hbits := Lib.hid (hT.out.2.1.add (nod_okI hv.out hid))
                have p12 : p < 12 := by rw [hnn.out] at hp1; omega
                have pi : (p : Int) < 12 := by omega
                have hrl := Lib.hid (hT.out.2.1.lt hpr)
                clear hE hp2 hp1 he hT hid hAa
                go_wp2_with fail
                refine pl.mono ?_
                rintro e w2 ⟨rfl, B⟩
                have hU := Lib.hid (hTa.out.low B)
                have box := bblk (b := wr.heap.size) B (by simp) hbox.out
                have hbl := lt_of_heap box
                obtain ⟨b0, b1, _, _⟩ := blk2 box
                have sc := add_at w.heap.size 6 pr nr (r pr) w2.drew hpr hnr hU.out.grp.lt (hU.out.grp.cr hpr) (hU.out.grp.free _) hrl.out
                have come := Lib.hid (fun (w7 : World) (o : Nat) (v : Value) (hb : Below w2.drew.heap.size w2.drew w7) => come.out w7 o v (B.trans (((Below.drew (Below.refl _ _)).trans hb).mono B.size)))
                have hgl := hU.out.grp.lt
                clear B hTa pl box hbox x0 x1
                go_wp2_with fail
                go_region_with (go_at_call 90; (with_reducible refine sc.mono ?_); rintro e w6 ⟨rfl, w7, hb, rfl⟩; obtain ⟨r2, rd2, P2, hot, hb2, hGL2⟩ := come.out w7 (6 + pr) (.int .u64 ((r pr ||| 2 ^ nr : Nat) : Int)) hb; have M18 := Lib.hid (((hU.out.low (Below.drew (Below.refl _ _))).low hb).add (p := pr) (n := nr) hpr); have hot := Lib.hid hot; have hb2 := Lib.hid hb2; have hGL2 := Lib.hid hGL2; clear hb come hU b0 b1 hbl hgl)
                all_goals
                  obtain ⟨W8, hW8⟩ : ∃ W, w7.setCell ⟨w.heap.size, 6 + pr, none⟩ (.int .u64 ((r pr ||| 2 ^ nr : Nat) : Int)) = W := ⟨_, rfl⟩
                  rw [hW8] at M18 hot ⊢
                  clear hW8
                  obtain ⟨⟨g6, g7, g8, g9, g10⟩, g11⟩ := hot.out.cells M18.out
                  obtain ⟨k6, k7, k8, k9, k10⟩ := M18.out.grp.rs
                  have fd := M18.out.fi.foc p12
                  rw [hgb2] at fd
                  unfold ptrO at fd
                  have sj := fun W => join_any (nrm (addF r ((pr : Int), (nr : Int)))) (nrm r2) W hbits.out.nrm_lt hb2.out.nrm_lt
                  obtain ⟨jq, hjq⟩ : ∃ j, Hid (joinF (nrm (addF r ((pr : Int), (nr : Int)))) (nrm r2) = j) := ⟨_, Lib.hid rfl⟩
                  rw [hjq.out, nrm_set, nrm_set] at sj
                  unfold setV at sj
                  have hJ : Hid (Bits jq (fun x => (P x ∨ x = ((pr : Int), (nr : Int))) ∨ P2 x)) := Lib.hid (by rw [← hjq.out]; exact hbits.out.nrm.join hb2.out.nrm)
                  have hfl := M18.out.fi.lt
                  have hgl := M18.out.grp.lt
                  go_wp2_with fail
                  go_region_with (go_at_call 55; (with_reducible refine (sj _).mono ?_); rintro e w9 ⟨rfl, hb⟩; have M9 := Lib.hid ((M18.out.low (Below.drew (Below.refl _ _))).low hb); have hot9 := Lib.hid ((hot.out.low (Below.drew (Below.refl _ _))).low hb); obtain ⟨k6, k7, k8, k9, k10⟩ := M9.out.grp.rs; have f6 := M9.out.grp.free 6; have f7 := M9.out.grp.free 7; have f8 := M9.out.grp.free 8; have f9 := M9.out.grp.free 9; have f10 := M9.out.grp.free 10; have hgl := M9.out.grp.lt; clear hb M18 hot g6 g7 g8 g9 g10 g11 fd hfl)
                  all_goals
                    obtain ⟨W10, hW10⟩ : ∃ W, ((((w9.setCell ⟨w.heap.size, 6, none⟩ (.int .u64 (jq 0))).setCell ⟨w.heap.size, 7, none⟩ (.int .u64 (jq 1))).setCell ⟨w.heap.size, 8, none⟩ (.int .u64 (jq 2))).setCell ⟨w.heap.size, 9, none⟩ (.int .u64 (jq 3))).setCell ⟨w.heap.size, 10, none⟩ (.int .u64 (jq 4)) = W := ⟨_, rfl⟩
                    have M10 := M9.out.put jq
                    have h11 := hot9.out.put M9.out jq
                    rw [hW10] at M10 h11 ⊢
                    have c11 := M10.grp.c11
                    have q11 := M10.grp.free 11
                    have fd := M10.fi.foc p12
                    rw [hgb2] at fd
                    unfold ptrO at fd
                    have hfl := M10.fi.lt
                    have hgl := M10.grp.lt
                    have M10 := Lib.hid M10
                    clear hW10 M9 hot9 k6 k7 k8 k9 k10 f6 f7 f8 f9 f10 sj
                    cases rd
                    · go_wp2_with fail
                      refine ⟨⟨kk + 1, jq, _, _, by omega, by go_num, Lib.hid ⟨M10.out.rdy _, hJ.out, by rw [dn1.out]; exact hGL2.out⟩⟩, ?_⟩
                      simp [intOf]; omega
                    · go_wp2_with fail
                      refine ⟨⟨kk + 1, jq, _, _, by omega, by go_num, Lib.hid ⟨M10.out.rdy _, hJ.out, by rw [dn1.out]; exact hGL2.out⟩⟩, ?_⟩
                      simp [intOf]; omega
              · rw [show hasP (idsN N) (dr, dn) = false from decide_eq_false hid] at pl
                have hGL := Lib.hid (hT.out.2.2.miss hid)
                have hbits := Lib.hid hT.out.2.1
                clear hT hid hAa
                go_wp2_with fail
                refine pl.mono ?_
                rintro e w2 ⟨rfl, B⟩
                have hU := Lib.hid (hTa.out.low B)
                have c11 := hU.out.grp.c11
                have q11 := hU.out.grp.free 11
                clear B hTa pl hbox x0 x1
                go_wp2_with fail
                refine ⟨⟨kk + 1, r, _, _, by omega, by go_num, Lib.hid ⟨hU.out.miss, hbits.out, by rw [dn1.out]; exact hGL.out⟩⟩, ?_⟩
                simp [intOf]; omega
            · obtain rfl : kk = dl := by omega
              go_wp2_with fail
              refine ⟨⟨j + 1, r, rd, P, by omega, by go_num, Lib.hid ⟨hT.out.1, hT.out.2.1, by rw [drow.out]; exact hT.out.2.2⟩⟩, ?_⟩
              simp [intOf]; omega
        · obtain rfl : j = k := by omega
          have hgl1 := hS2.out.1.grp.lt
          obtain ⟨_, _, _, z3⟩ := hS2.out.1.fi.cells
          have hfl := hS2.out.1.fi.lt
          obtain ⟨j0, hj0, jz0, jz1, jz2⟩ := info_parts infoG
          have hgr : Hid (∀ i ∈ S, Grp wr w.heap.size N U i) := Lib.hid fun i hi => ⟨mb, mc, Q, f, r, rd, hS2.out.1.grp, hS2.out.1.row, hS2.out.1.typ, by rw [hQ.out.perm.length_eq]; exact hmc, GL.done hv.out hS.out hQ.out.perm (srd_pair hQ.out) hfb.out hS2.out.2.1 (by rw [hql]; exact hS2.out.2.2) hi⟩
          have hge := Lib.hid (fun (o : Obj) (w' : World) (v' : Value) => gat_end (o := o) (w' := w') (v' := v') hS2.out.1 hG.out)
          have hG2 : Hid (wr.ownsRow (fb + 1) 59 1 gv gs.length (gs.map pv)) := Lib.hid (row_same hG.out fun k hk => hS2.out.1.exc.block k (ownb_typ hG.out hk).lt (by have := own_ge hG.out hk; omega))
          clear hS2
          go_wp2_with (at_builtin; refine wpList_append_own _ rfl _ _ 67 rfl (fb + 1) 59 j0 (.pointer none) 1 8 Tryd.underlying67 hj0 jz0 jz1 jz2 rfl (by decide) gv gs.length (gs.map pv) rfl (hG2.out.alloc _) ⟨wr.heap.size, 0, none⟩ 1 1 [.pointer (some ⟨w.heap.size, 0, none⟩)] rfl rfl (cell_one_new _ _ _) ?c2 ?c3 ?c4 ?c5 ?_)
          case c2 => intro u hu; simp at hu; subst hu; rfl
          case c3 => unfold maxLen; omega
          case c4 => omega
          case c5 => simp; omega
          intro v4 w4 hown4 hgrow4 hnil4
          obtain ⟨g4, c4, rfl⟩ := own_some hown4 (by omega)
          obtain ⟨y1, y2, y3, y4, y5⟩ := hge.out _ w4 _ hown4 hgrow4
          have z4 := y1.free 27
          obtain ⟨_, _, _, z3⟩ := y1.cells
          have hfl := y1.lt
          have y2 := Lib.hid y2
          have y3 := Lib.hid y3
          have y4 := Lib.hid (fun i hi => y4 i (hgr.out i hi))
          have y5 := Lib.hid y5
          clear hown4 hgrow4 hnil4 y1 hge
          go_wp2_with fail
          go_end0
          exact ⟨rfl, w.heap.size, _, Nat.le_refl _, y2.out, y3.out, y4.out, y5.out⟩
end Go.Proofs.YtbbnchodchgioaaDoor

/- The program's visit: facts. -/
namespace Go.Proofs.YtbbnchodchgioaaDoor
open Go.RowKit
set_option linter.unusedVariables false

/-- How many were not met. -/
def cnt (n : Nat) (s : TS) : Nat := ((List.range n).filter fun i => decide (s.met i = 0)).length
theorem filter_le {p q : Nat → Bool} : ∀ {L : List Nat}, (∀ i ∈ L, q i = true → p i = true) → (L.filter q).length ≤ (L.filter p).length
  | [], _ => Nat.le_refl _
  | a :: L, h => by
    have ih := filter_le (p := p) (q := q) (L := L) fun i hi => h i (List.mem_cons_of_mem _ hi)
    rw [List.filter_cons, List.filter_cons]
    by_cases hq : q a = true
    · rw [if_pos hq, if_pos (h a List.mem_cons_self hq)]; simp only [List.length_cons]; omega
    · rw [if_neg hq]
      split
      · simp only [List.length_cons]; omega
      · exact ih
theorem filter_lt {p q : Nat → Bool} {x : Nat} (hp : p x = true) (hq : q x = false) : ∀ {L : List Nat}, x ∈ L → (∀ i ∈ L, q i = true → p i = true) → (L.filter q).length < (L.filter p).length
  | [], h, _ => nomatch h
  | a :: L, hx, h => by
    have hle := filter_le (p := p) (q := q) (L := L) fun i hi => h i (List.mem_cons_of_mem _ hi)
    rw [List.filter_cons, List.filter_cons]
    by_cases e : a = x
    · subst e
      rw [hq, if_neg Bool.false_ne_true, if_pos hp]; simp only [List.length_cons]; omega
    · have hx' : x ∈ L := (List.mem_cons.1 hx).resolve_left (fun e' => e e'.symm)
      have ih := filter_lt hp hq hx' fun i hi => h i (List.mem_cons_of_mem _ hi)
      by_cases hqa : q a = true
      · rw [if_pos hqa, if_pos (h a List.mem_cons_self hqa)]; simp only [List.length_cons]; omega
      · rw [if_neg hqa]
        split
        · simp only [List.length_cons]; omega
        · exact ih
theorem TX.cnt {s t : TS} (h : TX s t) (n : Nat) : cnt n t ≤ cnt n s := by
  refine filter_le fun i _ hi => ?_
  rw [decide_eq_true_eq] at hi ⊢
  rcases Nat.eq_zero_or_pos (s.met i) with e | e
  · exact e
  · have := h.met i (by omega); omega
theorem TX.cnt_lt {s t : TS} (h : TX s t) {n x : Nat} (hx : x < n) (h0 : s.met x = 0) (h1 : t.met x ≠ 0) : Proofs.YtbbnchodchgioaaDoor.cnt n t < Proofs.YtbbnchodchgioaaDoor.cnt n s := by
  refine filter_lt (x := x) (decide_eq_true h0) (decide_eq_false h1) (List.mem_range.2 hx) fun i _ hi => ?_
  rw [decide_eq_true_eq] at hi ⊢
  rcases Nat.eq_zero_or_pos (s.met i) with e | e
  · exact e
  · have := h.met i (by omega); omega
theorem cnt_le (n : Nat) (s : TS) : cnt n s ≤ n := by
  have := List.length_filter_le (fun i => decide (s.met i = 0)) (List.range n)
  rw [List.length_range] at this; exact this

theorem nodup_lenN : ∀ {A B : List Nat}, A.Nodup → (∀ x ∈ A, x ∈ B) → A.length ≤ B.length
  | [], B, _, _ => Nat.zero_le _
  | a :: A, B, h, hs => by
    have h' := List.nodup_cons.1 h
    have ha := hs a List.mem_cons_self
    obtain ⟨X, Y, rfl⟩ := List.append_of_mem ha
    have := nodup_lenN (B := X ++ Y) h'.2 fun x hx => by
      have hxx := hs x (List.mem_cons_of_mem _ hx)
      rcases List.mem_append.1 hxx with h1 | h1
      · exact List.mem_append_left _ h1
      · rcases List.mem_cons.1 h1 with e | h1
        · subst e; exact absurd hx h'.1
        · exact List.mem_append_right _ h1
    simp only [List.length_append, List.length_cons] at this ⊢
    omega
theorem TI.nodup {E : Nat → Nat → Prop} {n : Nat} {s : TS} {G : List Nat} (h : TI E n s G) : s.stack.Nodup := List.Pairwise.imp (fun {a b} hab e => by subst e; exact absurd hab (Nat.lt_irrefl _)) h.up
theorem TI.slen {E : Nat → Nat → Prop} {n : Nat} {s : TS} {G : List Nat} (h : TI E n s G) : s.stack.length ≤ n := by
  have := nodup_lenN (B := List.range n) h.nodup fun x hx => List.mem_range.2 (h.lt x ((h.st x).1 hx).1)
  rw [List.length_range] at this; exact this

/-- What a visit leaves in memory. -/
def VisP (N : List Nd) (U : Us) (fb : Nat) (v0 : Value) (w0 : World) (s : TS) (gs : List Nat) (G : List Nat) (x : Nat) (e : Ending) (w' : World) : Prop :=
  ∃ r s' gs' sv' gv', e = .returned (nv r) ∧ FS N U fb v0 w0 w' s' gs' sv' gv' ∧ TP (EN N) N.length s G x s' r ∧ s'.many + cnt N.length s' ≤ 12 ∧ gs'.length + s.many ≤ gs.length + s'.many

/-- Within a visit: k deps have been looked at. -/
structure VL (N : List Nd) (U : Us) (fb : Nat) (v0 : Value) (w0 : World) (s : TS) (gs : List Nat) (G : List Nat) (x : Nat) (wr : World) (k r : Nat) (t : TS) (gt : List Nat) (sv gv : Value) : Prop where
  fs : FS N U fb v0 w0 wr t gt sv gv
  tl : TL (EN N) N.length s G x (fun j => j < N.length ∧ (N.getD j nd0).id ∈ (N.getD x nd0).deps.take k) t r
  cm : t.many + cnt N.length t ≤ 12
  gm : gt.length + s.many + 1 ≤ gs.length + t.many

theorem FS.up {N : List Nd} {U : Us} {fb : Nat} {v0 : Value} {w0 w w' : World} {s : TS} {gs : List Nat} {sv gv : Value} (h : FS N U fb v0 w0 w s gs sv gv) (hb : Below w.heap.size w w') : FS N U fb v0 w0 w' s gs sv gv :=
  ⟨h.bel.trans (hb.mono (Nat.le_of_lt h.fi.lt)), h.fi.same (hb.block fb h.fi.lt), row_same h.srow (fun k hk => hb.block k (ownb_typ h.srow hk).lt), row_same h.grow (fun k hk => hb.block k (ownb_typ h.grow hk).lt), fun i b hi => (h.grp i b hi).keep (Exv.of hb), h.mem⟩

section
variable {N : List Nd} {U : Us} {fb : Nat} {v0 : Value} {w0 : World} {s : TS} {gs G : List Nat} {x : Nat} {wr : World} {k r : Nat} {t : TS} {gt : List Nat} {sv gv : Value}
theorem VL.up (h : VL N U fb v0 w0 s gs G x wr k r t gt sv gv) {w' : World} (hb : Below wr.heap.size wr w') : VL N U fb v0 w0 s gs G x w' k r t gt sv gv := ⟨h.fs.up hb, h.tl, h.cm, h.gm⟩
theorem dep_next {d : Pid} (hk : k < (N.getD x nd0).deps.length) (hd : (N.getD x nd0).deps.getD k nop = d) {j : Nat} (h : j < N.length ∧ (N.getD j nd0).id ∈ (N.getD x nd0).deps.take (k + 1)) : (j < N.length ∧ (N.getD j nd0).id ∈ (N.getD x nd0).deps.take k) ∨ (j < N.length ∧ (N.getD j nd0).id = d) := by
  obtain ⟨h1, h2⟩ := h
  rw [take_next hk, hd] at h2
  rcases List.mem_append.1 h2 with h2 | h2
  · exact .inl ⟨h1, h2⟩
  · exact .inr ⟨h1, List.mem_singleton.1 h2⟩
theorem VL.miss (h : VL N U fb v0 w0 s gs G x wr k r t gt sv gv) (hs : TI (EN N) N.length s G) {d : Pid} (hk : k < (N.getD x nd0).deps.length) (hd : (N.getD x nd0).deps.getD k nop = d) (hn : ¬ d ∈ idsN N) : VL N U fb v0 w0 s gs G x wr (k + 1) r t gt sv gv :=
  ⟨h.fs, h.tl.skip hs fun j hj => (dep_next hk hd hj).imp id fun ⟨h1, h2⟩ => absurd (by rw [← h2]; exact List.mem_map_of_mem (getD_mem h1)) hn, h.cm, h.gm⟩
theorem VL.known (h : VL N U fb v0 w0 s gs G x wr k r t gt sv gv) (hs : TI (EN N) N.length s G) (hv : nodB N = true) {d : Pid} (hk : k < (N.getD x nd0).deps.length) (hd : (N.getD x nd0).deps.getD k nop = d) {p b : Nat} (hp : p < N.length) (hpd : (N.getD p nd0).id = d) (hf : t.found p = some b) : VL N U fb v0 w0 s gs G x wr (k + 1) r t gt sv gv :=
  ⟨h.fs, h.tl.skip hs fun j hj => (dep_next hk hd hj).imp id fun ⟨h1, h2⟩ => ⟨b, by rw [nod_inj hv h1 hp (h2.trans hpd.symm)]; exact hf⟩, h.cm, h.gm⟩
theorem VL.wait (h : VL N U fb v0 w0 s gs G x wr k r t gt sv gv) (hs : TI (EN N) N.length s G) (hv : nodB N = true) {d : Pid} (hk : k < (N.getD x nd0).deps.length) (hd : (N.getD x nd0).deps.getD k nop = d) {p : Nat} (hp : p < N.length) (hpd : (N.getD p nd0).id = d) (hE : EN N x p) (hm : t.met p ≠ 0) (hf : t.found p = none) : VL N U fb v0 w0 s gs G x wr (k + 1) (min r (t.met p)) t gt sv gv :=
  ⟨h.fs, h.tl.wait hs hE hm hf fun j hj => (dep_next hk hd hj).imp id fun ⟨h1, h2⟩ => nod_inj hv h1 hp (h2.trans hpd.symm), h.cm, h.gm⟩
theorem VL.visit (h : VL N U fb v0 w0 s gs G x wr k r t gt sv gv) (hs : TI (EN N) N.length s G) (hv : nodB N = true) {d : Pid} (hk : k < (N.getD x nd0).deps.length) (hd : (N.getD x nd0).deps.getD k nop = d) {p : Nat} (hp : p < N.length) (hpd : (N.getD p nd0).id = d) (hE : EN N x p) (hm : t.met p = 0)
    {q : Nat} {t' : TS} {gt' : List Nat} {sv' gv' : Value} {w' : World} (hf : FS N U fb v0 w0 w' t' gt' sv' gv') (hT : TP (EN N) N.length t (x :: G) p t' q) (hc : t'.many + cnt N.length t' ≤ 12) (hg : gt'.length + t.many ≤ gt.length + t'.many) : VL N U fb v0 w0 s gs G x w' (k + 1) (min r q) t' gt' sv' gv' :=
  ⟨hf, h.tl.visit hs hE hm hT fun j hj => (dep_next hk hd hj).imp id fun ⟨h1, h2⟩ => nod_inj hv h1 hp (h2.trans hpd.symm), hc, by have := h.gm; omega⟩
end
theorem row_shape {w : World} {B : Nat} {e : TypeId} {size : Nat} {v : Value} {n : Nat} {xs : List Value} (h : w.ownsRow B e size v n xs) : ∃ a cap, v = .slice a n cap := by
  rcases h.2 with ⟨e, h0⟩ | ⟨g, cap, cur, e, _⟩
  · subst h0; exact ⟨none, 0, e⟩
  · exact ⟨_, cap, e⟩
theorem FS.store {N : List Nd} {U : Us} {fb : Nat} {v0 : Value} {w0 w : World} {s s' : TS} {gs : List Nat} {sv gv : Value} (h : FS N U fb v0 w0 w s gs sv gv) {o : Nat} {v : Value} (hf : Fi (w.setCell ⟨fb, o, none⟩ v) fb v0 sv gv s'.many s'.met s'.found) (h1 : s'.stack = s.stack) (h2 : s'.found = s.found) :
    FS N U fb v0 w0 (w.setCell ⟨fb, o, none⟩ v) s' gs sv gv := by
  have ho : ∀ k, fb + 1 ≤ k → (w.setCell ⟨fb, o, none⟩ v).heap[k]? = w.heap[k]? := fun k hk => heap_setCell_other _ _ _ _ (by show k ≠ fb; omega)
  refine ⟨h.bel.setCell (p := ⟨fb, o, none⟩) (Nat.le_refl _) v, hf, ?_, row_same h.grow (fun k hk => ho k (own_ge h.grow hk)), fun i b hi => ?_, ?_⟩
  · rw [h1]; exact row_same h.srow (fun k hk => ho k (own_ge h.srow hk))
  · rw [h2] at hi; exact (h.grp i b hi).keep ((Exv.refl w).set (.inl h.fi.typ) o v)
  · rw [h2]; exact h.mem
theorem FS.push {N : List Nd} {U : Us} {fb : Nat} {v0 : Value} {w0 w : World} {s : TS} {gs : List Nat} {sv gv : Value} (h : FS N U fb v0 w0 w s gs sv gv) {o : Obj} {w' : World} {v' : Value} {x : Nat}
    (hown : w'.ownsRow (fb + 1) 3 1 v' (s.stack.length + 1) (s.stack.map nv ++ [nv x])) (hg : (w.alloc o).grownBy w' sv.ownBlock) :
    Fi w' fb v0 sv gv s.many s.met s.found ∧ FS N U fb v0 w0 (w'.setCell ⟨fb, 1, none⟩ v') ⟨s.many, s.met, s.stack ++ [x], s.found⟩ gs v' gv := by
  have hU := h.up ((Below.refl _ _).alloc (Nat.le_refl _) o)
  have hne : ∀ k, sv.ownBlock = some k → k ≠ fb := fun k hk => by have := own_ge h.srow hk; omega
  have hfi := hU.fi.same (hg.block fb hU.fi.lt (fun e => hne fb e.symm rfl))
  have e1 : Exv (w.alloc o) w' := Exv.grown hU.srow hg (.inl rfl)
  have ho : ∀ k, fb + 1 ≤ k → (w'.setCell ⟨fb, 1, none⟩ v').heap[k]? = w'.heap[k]? := fun k hk => heap_setCell_other _ _ _ _ (by show k ≠ fb; omega)
  refine ⟨hfi, ?_, hfi.setStack v', ?_, ?_, fun i b hi => ((hU.grp i b hi).keep e1).keep ((Exv.refl _).set (.inl hfi.typ) _ _), h.mem⟩
  · have hb0 : Below fb w0 w' := by
      refine ⟨hg.os.trans hU.bel.os, hg.tape.trans hU.bel.tape, hg.output.trans hU.bel.output, Nat.le_trans hU.bel.size hg.size, fun b hb => ?_⟩
      exact (hg.block b (by have := hU.fi.lt; omega) (fun e => by have := own_ge h.srow e.symm; omega)).trans (hU.bel.block b hb)
    exact hb0.setCell (p := ⟨fb, 1, none⟩) (Nat.le_refl _) v'
  · refine row_same (by rw [List.map_append, List.length_append]; exact hown) fun k hk => ho k (own_ge hown hk)
  · refine row_same hU.grow fun k hk => ?_
    rw [ho k (own_ge hU.grow hk)]
    refine hg.block k (ownb_typ hU.grow hk).lt fun e => ?_
    have := (ownb_typ hU.grow hk).uniq (ownb_typ hU.srow e.symm)
    exact absurd this (by decide)
theorem Exc.exv {w w' : World} {fb : Nat} (h : Exc (fun b => b = fb ∨ fb < b ∧ Typ w b 59) w w') (hf : Typ w fb 93) : Exv w w' := h.mono fun b e => by
  rcases e with e | e
  · exact .inl (by rw [e]; exact hf)
  · exact .inr (.inr e.2)
theorem FS.close {N : List Nd} {U : Us} {fb : Nat} {v0 : Value} {w0 w : World} {t : TS} {gs : List Nat} {sv gv : Value} (h : FS N U fb v0 w0 w t gs sv gv) {S A : List Nat} {gb : Nat} {gv' cv : Value} {w' : World}
    (hS : ∀ i ∈ S, t.found i = none) (hS0 : 0 < S.length) (hfi : Fi w' fb v0 sv gv' t.many t.met (fun i => if i ∈ S then some gb else t.found i)) (hrow : w'.ownsRow (fb + 1) 59 1 gv' (gs ++ [gb]).length ((gs ++ [gb]).map pv))
    (hgr : ∀ i ∈ S, Grp w' gb N U i) (he : Exc (fun b => b = fb ∨ fb < b ∧ Typ w b 59) w w') (hcut : w.ownsRow (fb + 1) 3 1 cv A.length (A.map nv)) :
    FS N U fb v0 w0 (w'.setCell ⟨fb, 1, none⟩ cv) (t.close S gb A) (gs ++ [gb]) cv gv' := by
  have ho : ∀ k, fb + 1 ≤ k → (w'.setCell ⟨fb, 1, none⟩ cv).heap[k]? = w'.heap[k]? := fun k hk => heap_setCell_other _ _ _ _ (by show k ≠ fb; omega)
  have ev := he.exv h.fi.typ
  have es : Exv w' (w'.setCell ⟨fb, 1, none⟩ cv) := (Exv.refl _).set (.inl hfi.typ) _ _
  have hbl : Below fb w w' := by
    refine he.to (Nat.le_of_lt h.fi.lt) fun b hb => ?_
    rcases hb with hb | hb <;> omega
  refine ⟨(h.bel.trans hbl).setCell (p := ⟨fb, 1, none⟩) (Nat.le_refl _) cv, hfi.setStack cv, row_same hcut fun k hk => ?_, row_same hrow fun k hk => ho k (own_ge hrow hk), fun i b hi => ?_, fun b => ?_⟩
  · rw [ho k (own_ge hcut hk)]
    have ht := ownb_typ hcut hk
    refine he.block k ht.lt fun e => ?_
    rcases e with e | e
    · have := own_ge hcut hk; omega
    · exact absurd (ht.uniq e.2) (by decide)
  · have hi' : (if i ∈ S then some gb else t.found i) = some b := hi
    by_cases hiS : i ∈ S
    · rw [if_pos hiS] at hi'; cases hi'; exact (hgr i hiS).keep es
    · rw [if_neg hiS] at hi'; exact ((h.grp i b hi').keep ev).keep es
  · show b ∈ gs ++ [gb] ↔ ∃ i, (if i ∈ S then some gb else t.found i) = some b
    rw [List.mem_append, List.mem_singleton]
    constructor
    · rintro (hb | rfl)
      · obtain ⟨i, hi⟩ := (h.mem b).1 hb
        refine ⟨i, ?_⟩
        rw [if_neg (fun hiS => by rw [hS i hiS] at hi; cases hi)]; exact hi
      · exact ⟨S[0], if_pos (List.getElem_mem _)⟩
    · rintro ⟨i, hi⟩
      by_cases hiS : i ∈ S
      · rw [if_pos hiS] at hi; cases hi; exact .inr rfl
      · rw [if_neg hiS] at hi; exact .inl ((h.mem b).2 ⟨i, hi⟩)
end Go.Proofs.YtbbnchodchgioaaDoor

/- The program's visit. -/
namespace Go.Proofs.YtbbnchodchgioaaDoor
open Go.RowKit
set_option linter.unusedVariables false

theorem infoI : (Tryd.prog.info? 3).map (fun i => (i.zero, i.size, i.bytes)) = some (some (.int .i64 0), 1, 8) := by kernel_rfl

set_option maxRecDepth 100000 in
set_option maxHeartbeats 8000000 in
theorem visit_any (fb g off cp : Nat) (N : List Nd) (U : Us) (w0 : World) (hv : nodB N = true) (hA : NdAt w0 g off N U) (h0 : w0.heap.size ≤ fb) :
    ∀ (c : Nat) (s : TS) (gs : List Nat) (sv gv : Value) (G : List Nat) (x : Nat) (w : World), cnt N.length s < c → FS N U fb (.slice (some ⟨g, off, none⟩) N.length cp) w0 w s gs sv gv → TI (EN N) N.length s G → x < N.length → s.met x = 0 → (∀ y ∈ G, Rt (EN N) y x) → (∀ y ∈ G, y ∈ s.stack) → s.many + cnt N.length s ≤ 12 → gs.length ≤ s.many →
      Calls Tryd.prog 72 #[.pointer (some ⟨fb, 0, none⟩), .int .i64 x] w (VisP N U fb (.slice (some ⟨g, off, none⟩) N.length cp) w0 s gs G x) := by
  obtain ⟨i0, hi, hz0, hz1, hz2⟩ := info_parts infoI
  have hNl := (nod_of hv).1
  have hv := Lib.hid hv
  have hA := Lib.hid hA
  obtain ⟨nn, hnn⟩ : ∃ n, Hid (N.length = n) := ⟨_, Lib.hid rfl⟩
  intro c
  induction c with
  | zero => intro s gs sv gv G x w h; exact absurd h (Nat.not_lt_zero _)
  | succ c ih =>
    intro s gs sv gv G x w hc hF hT hx hx0 hGr hGs hcm hgm
    have ih := Lib.hid ih
    have hT := Lib.hid hT
    have hGr := Lib.hid hGr
    have hGs := Lib.hid hGs
    have hF := Lib.hid hF
    have hx0 := Lib.hid hx0
    have hc := Lib.hid hc
    have hm12 : s.many ≤ 11 := by
      have : 0 < cnt N.length s := by
        have := (hT.out.enter hx hx0.out hGr.out).2.cnt_lt hx hx0.out (by show (if x = x then s.many + 1 else s.met x) ≠ 0; rw [if_pos rfl]; omega)
        omega
      omega
    have hsl := hT.out.slen
    have hx12 : x < 12 := by omega
    have xi : (x : Int) < 12 := by omega
    have xi0 : (0 : Int) ≤ (x : Int) := by omega
    have hcm := Lib.hid hcm
    have hsl := Nat.le_trans hsl hNl
    obtain ⟨_, _, c2, _⟩ := hF.out.fi.cells
    unfold nv at c2
    have hfl := hF.out.fi.lt
    have f2 := hF.out.fi.free 2
    have F1 := Lib.hid (hF.out.store (s' := ⟨s.many + 1, s.met, s.stack, s.found⟩) (hF.out.fi.setMany (s.many + 1)) rfl rfl)
    have hw1 : IntKind.i64.wrap ((s.many : Int) + 1) = ((s.many + 1 : Nat) : Int) := by rw [IntWalk.i64_in _ (by omega)]; omega
    go_enter Tryd.func72, Tryd.ntmps72
    go_wp2_with fail
    obtain ⟨W1, hW1⟩ : ∃ W, w.setCell ⟨fb, 2, none⟩ (.int .i64 ((s.many : Int) + 1)) = W := ⟨_, rfl⟩
    have F1 : Hid (FS N U fb (.slice (some ⟨g, off, none⟩) N.length cp) w0 W1 ⟨s.many + 1, s.met, s.stack, s.found⟩ gs sv gv) := Lib.hid (by rw [← hW1]; exact F1.out)
    rw [hW1]
    clear hW1 c2 f2 hfl
    obtain ⟨sa, scp, rfl⟩ := row_shape F1.out.srow
    dsimp only at F1
    obtain ⟨_, e1, e2, _⟩ := F1.out.fi.cells
    unfold nv at e2
    have e2 : W1.cell? ⟨fb, 2, none⟩ = some (.int .i64 ((s.many : Int) + 1)) := e2
    go_quiet (fail)
    obtain ⟨W2, hW2⟩ : ∃ W, W1.drewN nq = W := ⟨_, rfl⟩
    have F1 : Hid (FS N U fb (.slice (some ⟨g, off, none⟩) N.length cp) w0 W2 ⟨s.many + 1, s.met, s.stack, s.found⟩ gs (.slice sa s.stack.length scp) gv) := Lib.hid (by rw [← hW2]; exact F1.out.up (bdrewN (Below.refl _ _) _))
    rw [hW2]
    clear hW2 e1 e2
    have m3 := F1.out.fi.metc hx12
    unfold nv at m3
    have fr3 := F1.out.fi.free (3 + x)
    have hfl := F1.out.fi.lt
    have F2 := Lib.hid (F1.out.store (o := 3 + x) (v := .int .i64 ((s.many : Int) + 1)) (s' := ⟨s.many + 1, fun i => if i = x then s.many + 1 else s.met i, s.stack, s.found⟩) (F1.out.fi.setMet hx12 (s.many + 1)) rfl rfl)
    go_upto_region 4 with fail
    obtain ⟨W3, hW3⟩ : ∃ W, W2.setCell ⟨fb, 3 + x, none⟩ (.int .i64 ((s.many : Int) + 1)) = W := ⟨_, rfl⟩
    rw [hW3] at F2 ⊢
    clear hW3 m3 fr3 hfl F1
    obtain ⟨_, e1, _, _⟩ := F2.out.fi.cells
    have hps := Lib.hid (fun (o : Obj) (w' : World) (v' : Value) => F2.out.push (x := x) (o := o) (w' := w') (v' := v'))
    have rr := Lib.hid F2.out.srow
    have hfl := F2.out.fi.lt
    dsimp only at rr hps
    clear F2
    go_wp2_with (at_builtin; refine wpList_append_own _ rfl _ _ 89 rfl (fb + 1) 3 i0 (.int .i64 0) 1 8 Tryd.underlying89 hi hz0 hz1 hz2 rfl (by decide) (.slice sa s.stack.length scp) s.stack.length (s.stack.map nv) rfl (rr.out.alloc _) ⟨W3.heap.size, 0, none⟩ 1 1 [.int .i64 x] rfl rfl (cell_one_new _ _ _) ?c2 ?c3 ?c4 ?c5 ?_)
    case c2 => first | rfl | (intro u hu; simp at hu; subst hu; rfl)
    case c3 => unfold maxLen; omega
    case c4 => omega
    case c5 => first | omega | (simp; omega)
    intro v4 w4 hown4 hgrow4 hnil4
    obtain ⟨g4, c4, rfl⟩ := own_some hown4 (by omega)
    obtain ⟨y1, y2⟩ := hps.out _ w4 _ hown4 hgrow4
    have f1 := y1.free 1
    obtain ⟨_, e1, _, _⟩ := y1.cells
    have hfl := y1.lt
    have F3 := Lib.hid y2
    clear hown4 hgrow4 hnil4 y1 y2 hps rr
    go_upto_region 5 with fail
    obtain ⟨W4, hW4⟩ : ∃ W, w4.setCell ⟨fb, 1, none⟩ (.slice (some ⟨g4, 0, none⟩) (s.stack.length + 1) c4) = W := ⟨_, rfl⟩
    rw [hW4] at F3 ⊢
    clear hW4 f1 e1 hfl
    have T0 := TL.start hT.out hx hx0.out hGr.out
    have hV : Hid (VL N U fb (.slice (some ⟨g, off, none⟩) N.length cp) w0 s gs G x W4 0 (s.many + 1) (s.enter x) gs (.slice (some ⟨g4, 0, none⟩) (s.stack.length + 1) c4) gv) := Lib.hid ⟨F3.out, ⟨T0.ti, T0.tx, T0.mx, T0.st, T0.at_, fun j hj => absurd hj.2 (by simp)⟩, by
      have := T0.tx.cnt_lt hx hx0.out (by rw [T0.mx]; exact Nat.succ_ne_zero _)
      have h2 := hcm.out
      show s.many + 1 + cnt N.length (s.enter x) ≤ 12
      omega, by show gs.length + s.many + 1 ≤ gs.length + (s.many + 1); omega⟩
    obtain ⟨e0, _, _, _⟩ := F3.out.fi.cells
    have hA4 := Lib.hid (hA.out.up F3.out.bel h0)
    obtain ⟨_, _, _, x3⟩ := hA4.out.cell x hx
    have hgl := hA4.out.lt
    have hids := hA.out.ids x hx
    obtain ⟨dl, hdl⟩ : ∃ n, Hid ((N.getD x nd0).deps.length = n) := ⟨_, Lib.hid rfl⟩
    obtain ⟨ua, uc, hue, hds⟩ := hids
    injection hue with q1 q2 q3
    rw [q1, q2, q3, hdl.out] at x3
    rw [hdl.out] at hds
    have hds := Lib.hid hds
    clear q1 q2 q3 F3 T0
    have hx' : x < nn := by rw [← hnn.out]; exact hx
    rw [hnn.out] at e0
    go_wp2_with fail
    go_loopw [6, 57] (fun fi i wr => ∃ (k r : Nat) (t : TS) (gt : List Nat) (sv gv : Value), k ≤ dl ∧ i = .int .i64 k ∧ fi = .int .i64 r ∧ Hid (VL N U fb (.slice (some ⟨g, off, none⟩) N.length cp) w0 s gs G x wr k r t gt sv gv)) (fun _ i _ => dl - (intOf i).toNat)
    case atStart => exact ⟨0, s.many + 1, _, _, _, _, Nat.zero_le _, rfl, rfl, hV⟩
    case round =>
      clear hV e0 hA4 x3 hgl
      obtain ⟨k, r, t, gt, sv, gv, hk, rfl, rfl, hV⟩ := hrel
      by_cases hkl : k < dl
      · obtain ⟨db, dof, rfl, hdb, hdc⟩ := hds.out.2.2.resolve_left (by omega)
        obtain ⟨x0, x1⟩ := hdc k hkl
        clear hdc
        have B2 := hV.out.fs.bel
        have x0 := (B2.cell (p := ⟨db, dof + k * 2, none⟩) (Nat.lt_of_lt_of_le hdb h0)).trans x0
        have x1 := (B2.cell (p := ⟨db, dof + k * 2 + 1, none⟩) (Nat.lt_of_lt_of_le hdb h0)).trans x1
        have hdb2 : db < wr.heap.size := Nat.lt_of_lt_of_le (Nat.lt_of_lt_of_le hdb h0) (Nat.le_of_lt hV.out.fs.fi.lt)
        have hkl2 : k < (N.getD x nd0).deps.length := by rw [hdl.out]; exact hkl
        have hdm : (N.getD x nd0).deps.getD k nop ∈ (N.getD x nd0).deps := getD_memP hkl2
        obtain ⟨d, hd⟩ : ∃ d, Hid ((N.getD x nd0).deps.getD k nop = d) := ⟨_, Lib.hid rfl⟩
        rw [hd.out] at x0 x1 hdm
        obtain ⟨dr, dn⟩ := d
        dsimp only at x0 x1
        have hdm := Lib.hid hdm
        have hVa := Lib.hid (hV.out.up ((Below.refl _ _).alloc (Nat.le_refl _) (.cells #[.int .i64 dr, .int .i64 dn] 25)))
        have hAa := Lib.hid (hA.out.up hVa.out.fs.bel h0)
        have pl := place_any fb g off cp N dr dn _ hv.out hAa.out.lt hAa.out.ins hVa.out.fs.fi.cells.1
        clear B2 hdb hV
        by_cases hid : (dr, dn) ∈ idsN N
        · rw [show hasP (idsN N) (dr, dn) = true from decide_eq_true hid] at pl
          obtain ⟨hp1, hp2⟩ := pos_node hv.out hid
          obtain ⟨p, hp⟩ : ∃ p, Hid (posP (idsN N) (dr, dn) = p) := ⟨_, Lib.hid rfl⟩
          rw [hp.out] at pl hp1 hp2
          have hE : EN N x p := ⟨hx, hp1, by rw [hp2]; exact hdm.out⟩
          have hE := Lib.hid hE
          have hp2 := Lib.hid hp2
          have hp1' := Lib.hid hp1
          have p12 : p < 12 := by omega
          have pi : (p : Int) < 12 := by omega
          clear hid hAa hp1
          go_wp2_with fail
          refine pl.mono ?_
          rintro e w2 ⟨rfl, B⟩
          have hU := Lib.hid (hVa.out.up B)
          have m3 := hU.out.fs.fi.metc p12
          unfold nv at m3
          have o3 := hU.out.fs.fi.foc p12
          clear B hVa pl x0 x1
          by_cases hm : t.met p = 0
          · rw [hm] at m3
            have st : ∃ T, t.stack = s.stack ++ x :: T := by obtain ⟨T, hT, _⟩ := hU.out.tl.st; exact ⟨T, hT⟩
            obtain ⟨T, hst⟩ := st
            have cl := ih.out t gt sv gv (x :: G) p w2 (by
                have := hU.out.tl.tx.cnt_lt hx hx0.out (by rw [hU.out.tl.mx]; exact Nat.succ_ne_zero _)
                have := hc.out; omega) hU.out.fs hU.out.tl.ti hp1'.out hm (fun y hy => by
                rcases List.mem_cons.1 hy with e | hy
                · subst e; exact .one hE.out
                · exact (hGr.out y hy).trans (.one hE.out)) (fun y hy => by
                rw [hst]
                rcases List.mem_cons.1 hy with e | hy
                · subst e; exact List.mem_append_right _ List.mem_cons_self
                · exact List.mem_append_left _ (hGs.out y hy)) hU.out.cm (by have := hU.out.gm; omega)
            go_wp2_with fail
            refine cl.mono ?_
            rintro e w3 ⟨q, t', gt', sv', gv', rfl, hF', hT', hc', hg'⟩
            have R := Lib.hid (hU.out.visit hT.out hv.out hkl2 hd.out hp1'.out hp2.out hE.out hm hF' hT' hc' hg')
            unfold nv
            clear cl hF' hT' hc' hg' m3 o3 hU
            go_wp2_with fail
            refine ⟨⟨k + 1, min r q, _, _, _, _, by omega, by go_num, by congr 1; split <;> omega, R⟩, ?_⟩
            simp [intOf]; omega
          · have hmi : ¬ ((t.met p : Int) = 0) := by omega
            cases hf : t.found p with
            | none =>
              have R := Lib.hid (hU.out.wait hT.out hv.out hkl2 hd.out hp1'.out hp2.out hE.out hm hf)
              rw [hf] at o3
              unfold ptrO at o3
              go_wp2_with fail
              refine ⟨⟨k + 1, min r (t.met p), _, _, _, _, by omega, by go_num, by congr 1; split <;> omega, R⟩, ?_⟩
              simp [intOf]; omega
            | some b =>
              have R := Lib.hid (hU.out.known hT.out hv.out hkl2 hd.out hp1'.out hp2.out hf)
              rw [hf] at o3
              unfold ptrO at o3
              go_wp2_with fail
              refine ⟨⟨k + 1, r, _, _, _, _, by omega, by go_num, rfl, R⟩, ?_⟩
              simp [intOf]; omega
        · rw [show hasP (idsN N) (dr, dn) = false from decide_eq_false hid] at pl
          go_wp2_with fail
          refine pl.mono ?_
          rintro e w2 ⟨rfl, B⟩
          have R := Lib.hid ((hVa.out.up B).miss hT.out hkl2 hd.out hid)
          clear B hVa pl x0 x1 hid
          go_wp2_with fail
          refine ⟨⟨k + 1, r, _, _, _, _, by omega, by go_num, rfl, R⟩, ?_⟩
          simp [intOf]; omega
      · obtain rfl : k = dl := by omega
        have hD : ∀ j, EN N x j → j < N.length ∧ (N.getD j nd0).id ∈ (N.getD x nd0).deps.take k := fun j hj => ⟨hj.2.1, by rw [← hdl.out, List.take_length]; exact hj.2.2⟩
        by_cases hr : r = s.many + 1
        · subst hr
          obtain ⟨T, hst, _⟩ := hV.out.tl.st
          obtain ⟨_, gr2, gr3, gr4⟩ := hV.out.tl.group hT.out hGs.out hD hst
          have hSp := List.pairwise_append.1 (by rw [← hst]; exact hV.out.tl.ti.nodup)
          have hGS : GS N (x :: T) := ⟨fun i hi => (gr4 i hi).1, hSp.2.1, gr3⟩
          have hcl := Lib.hid (fun (b : Nat) (hb : wr.heap.size ≤ b) => hV.out.tl.close hT.out hGs.out hD hst (b := b) (fun i c hc => by
            obtain ⟨mb', cap', Q', f2, r2, rd2, hgr⟩ := hV.out.fs.grp i c hc
            have := hgr.gb.lt; omega))
          have hrow : wr.ownsRow (fb + 1) 3 1 sv ((s.stack.map nv).length + ((x :: T).map nv).length) (s.stack.map nv ++ (x :: T).map nv) := by
            have := hV.out.fs.srow
            rw [hst, List.map_append, List.length_append] at this
            rw [List.length_map, List.length_map]; exact this
          obtain ⟨sb, scap, cur, rfl, hsb, hsg, hle, hscm, hcut, hcells⟩ := row_cut hrow (by simp)
          rw [List.length_map] at hle hcut hcells
          rw [List.length_map] at hle hcells
          have ga := fun (so sc : Nat) (hso : so = s.stack.length) => gather_any fb g off cp sb so sc gv (.slice (some ⟨sb, 0, none⟩) ((s.stack.map nv).length + ((x :: T).map nv).length) scap) N U (x :: T) gt t.many t.met t.found w0 wr hv.out hA.out h0 hV.out.fs.bel hV.out.fs.fi hGS (by simp) ⟨cur, hsg⟩ (fun i hi => by
              subst hso
              rw [hcells i hi, List.getElem?_map, List.getD_eq_getElem?_getD, List.getElem?_eq_getElem hi]; rfl) hV.out.fs.grow (by have := hV.out.gm; have := hV.out.cm; omega) (fun i hi j hj hjn => by
              rcases gr2 i hi j hj with h1 | ⟨b, hb⟩
              · exact absurd h1 hjn
              · exact ⟨b, hb, hV.out.fs.grp j b hb⟩)
          obtain ⟨_, e1, _, _⟩ := hV.out.fs.fi.cells
          have hfl := hV.out.fs.fi.lt
          have hF := hV.out.fs
          have hcm2 := hV.out.cm
          have hgm2 := hV.out.gm
          have hnf := Lib.hid (fun i hi => (gr4 i hi).2)
          have hcut := Lib.hid hcut
          have hre : ((s.many + 1 : Nat) : Int) = (s.many : Int) + 1 := rfl
          rw [List.length_map, List.length_map] at ga e1 hF
          obtain ⟨n1, hn1⟩ : ∃ n, Hid (s.stack.length = n) := ⟨_, Lib.hid rfl⟩
          obtain ⟨n2, hn2⟩ : ∃ n, Hid ((x :: T).length = n) := ⟨_, Lib.hid rfl⟩
          have n20 : 0 < n2 := by rw [← hn2.out]; simp
          rw [hn1.out] at ga e1 hle hsl hF
          rw [hn2.out] at ga e1 hle hF
          have hF := Lib.hid hF
          rw [hn1.out]
          have s1 : IntKind.i64.wrap (n1 : Int) = (n1 : Int) := IntWalk.i64_in _ (by omega)
          clear hV hrow hcells hD hst gr2 gr3 gr4 hSp hGS
          go_wp2_with fail
          refine (ga n1 (scap - n1) rfl).mono ?_
          rintro e w2 ⟨rfl, gb, gv', hgb, hfi, hgro, hgr, hex⟩
          have R := hF.out.close (S := x :: T) (A := s.stack) hnf.out (by simp) hfi hgro hgr hex hcut.out
          rw [hn1.out] at R
          have hcl2 := hcl.out gb hgb
          have R := Lib.hid (⟨R, hcl2, hcm2, by rw [List.length_append, List.length_singleton]; show _ ≤ _ + t.many; omega⟩ : _ ∧ _ ∧ t.many + cnt N.length t ≤ 12 ∧ (gt ++ [gb]).length + s.many ≤ gs.length + ((t.close (x :: T) gb s.stack).many))
          obtain ⟨_, e1, _, _⟩ := hfi.cells
          have f1 := hfi.free 1
          have hfl := hfi.lt
          clear ga hfi hgro hgr hex hF hcut hcl hcl2 hnf
          go_wp2_with fail
          go_ret
          exact ⟨s.many + 1, t.close (x :: T) gb s.stack, gt ++ [gb], _, gv', rfl, R.out.1, R.out.2.1, R.out.2.2.1, R.out.2.2.2⟩
        · have hP := hV.out.tl.keep hT.out hD hr
          have hri : ¬ ((r : Int) = (s.many : Int) + 1) := by omega
          have hfs := hV.out.fs
          have hcm2 := hV.out.cm
          have hgm2 := hV.out.gm
          have R := Lib.hid (⟨hfs, hP, hcm2, by omega⟩ : _ ∧ _ ∧ _ ∧ gt.length + s.many ≤ gs.length + t.many)
          clear hfs hP hcm2 hgm2 hD
          go_wp2_with fail
          go_ret
          exact ⟨r, t, gt, sv, gv, rfl, R.out.1, R.out.2.1, R.out.2.2.1, R.out.2.2.2⟩
end Go.Proofs.YtbbnchodchgioaaDoor

/- The program's groupsOf. -/
namespace Go.Proofs.YtbbnchodchgioaaDoor
open Go.RowKit
set_option linter.unusedVariables false

/-- All groups. -/
def AllG (w : World) (N : List Nd) (U : Us) (gs : List Nat) : Prop := (∀ i, i < N.length → ∃ b ∈ gs, Grp w b N U i) ∧ ∀ b ∈ gs, ∃ i, i < N.length ∧ Grp w b N U i
/-- What groupsOf leaves. -/
def GsP (N : List Nd) (w : World) (e : Ending) (w' : World) : Prop :=
  ∃ gs gv U, e = .returned gv ∧ w'.ownsRow w.heap.size 59 1 gv gs.length (gs.map pv) ∧ gs.length ≤ 12 ∧ Below w.heap.size w w' ∧ (nodB N = false → gs = []) ∧ (nodB N = true → AllG w' N U gs)

def s0 : TS := ⟨0, fun _ => 0, [], fun _ => none⟩
theorem ti0 (E : Nat → Nat → Prop) (n : Nat) : TI E n s0 [] :=
  ⟨fun _ => Nat.le_refl _, fun _ h => absurd rfl h, fun _ _ h => (nomatch h), fun _ => ⟨fun h => (nomatch h), fun h => absurd rfl h.1⟩, List.Pairwise.nil, List.Pairwise.nil, fun _ h => (nomatch h), fun _ _ h => (nomatch h), fun _ _ _ _ h => (nomatch h), fun _ h => absurd rfl h⟩
theorem TI.full {E : Nat → Nat → Prop} {n : Nat} {s : TS} (h : TI E n s []) (hm : ∀ i, i < n → s.met i ≠ 0) : ∀ i, i < n → ∃ b, s.found i = some b := by
  intro i hi
  cases hf : s.found i with
  | some b => exact ⟨b, rfl⟩
  | none =>
    obtain ⟨g, hg, _⟩ := h.gr i ((h.st i).2 ⟨hm i hi, hf⟩)
    exact nomatch hg

/-- The finder at its beginning. -/
def fin0 (v : Value) : Obj := .cells #[v, .slice none 0 0, .int .i64 0, .int .i64 0, .int .i64 0, .int .i64 0, .int .i64 0, .int .i64 0, .int .i64 0, .int .i64 0, .int .i64 0, .int .i64 0, .int .i64 0, .int .i64 0, .int .i64 0, .pointer none, .pointer none, .pointer none, .pointer none, .pointer none, .pointer none, .pointer none, .pointer none, .pointer none, .pointer none, .pointer none, .pointer none, .slice none 0 0] 93
theorem fs0 (N : List Nd) (U : Us) (v : Value) (w0 w : World) (hb : Below w0.heap.size w0 w) (h : w.heap[w0.heap.size]? = some (fin0 v)) : FS N U w0.heap.size v w0 w s0 [] (.slice none 0 0) (.slice none 0 0) := by
  refine ⟨hb, ⟨_, h, rfl, rfl, rfl, rfl, rfl, fun i hi => ?_, fun i hi => ?_⟩, World.ownsRow_nil _ _ _ _, World.ownsRow_nil _ _ _ _, fun _ _ h => (nomatch h), fun b => ⟨fun h => (nomatch h), fun ⟨_, h⟩ => (nomatch h)⟩⟩
  · rcases (show i = 0 ∨ i = 1 ∨ i = 2 ∨ i = 3 ∨ i = 4 ∨ i = 5 ∨ i = 6 ∨ i = 7 ∨ i = 8 ∨ i = 9 ∨ i = 10 ∨ i = 11 by omega) with rfl | rfl | rfl | rfl | rfl | rfl | rfl | rfl | rfl | rfl | rfl | rfl <;> rfl
  · rcases (show i = 0 ∨ i = 1 ∨ i = 2 ∨ i = 3 ∨ i = 4 ∨ i = 5 ∨ i = 6 ∨ i = 7 ∨ i = 8 ∨ i = 9 ∨ i = 10 ∨ i = 11 by omega) with rfl | rfl | rfl | rfl | rfl | rfl | rfl | rfl | rfl | rfl | rfl | rfl <;> rfl

theorem fin_store {P : Program} (w1 WZ : World) (zs vs : Array Value) (t : TypeId) (h : w1.alloc (.cells zs t) = WZ) (hs : zs.size = vs.size) (h1 : ∀ v ∈ vs.toList, v.oneCell' = true) :
    ∃ WS, (storeCells ⟨w1.heap.size, 0, none⟩ vs.toList).run P WZ = .ok () WS ∧ WS.heap[w1.heap.size]? = some (.cells vs t (0, 0)) ∧ Below w1.heap.size w1 WS := by
  subst h
  have hz := heap_alloc_new w1 (.cells zs t)
  have hr := run_storeCells_from (P := P) w1.heap.size t vs.toList 0 zs (w1.alloc (.cells zs t)) hz (by simp [hs]) h1
  rw [List.take_zero, List.nil_append, Array.toArray_toList] at hr
  refine ⟨_, hr, setRow_heap _ _ _ _ _ _ hz, ?_⟩
  have B := (Below.refl w1.heap.size w1).alloc (Nat.le_refl _) (.cells zs t)
  refine ⟨B.os, B.tape, B.output, ?_, fun k hk => ?_⟩
  · refine Nat.le_trans B.size ?_
    show _ ≤ (Array.modify _ _ _).size
    rw [Array.size_modify]; exact Nat.le_refl _
  · rw [setRow_other _ _ _ _ (Nat.ne_of_lt hk)]; exact B.block k hk

set_option maxRecDepth 100000 in
set_option maxHeartbeats 4000000 in
theorem groups_no (u : Value) (N : List Nd) (w : World) (h : Nds w u N) (hv : nodB N = false) :
    Calls Tryd.prog 53 #[u] w (GsP N w) := by
  have iv := inval_any u N w h
  unfold GsP
  rw [hv] at iv ⊢
  go_enter Tryd.func53, Tryd.ntmps53
  go_wp2_with fail
  refine iv.mono ?_
  rintro e w1 ⟨rfl, hb⟩
  have D := Lib.hid hb
  clear hb iv
  go_wp2_with fail
  go_ret
  exact ⟨[], _, fun _ => (none, 0, 0), rfl, World.ownsRow_nil _ _ _ _, by simp, D.out, fun _ => rfl, fun x => nomatch x⟩

set_option maxRecDepth 100000 in
set_option maxHeartbeats 4000000 in
theorem groups_at (a : Option Addr) (cp : Nat) (N : List Nd) (U : Us) (w : World) (hv : nodB N = true) (hU : Nds w (.slice a N.length cp) N)
    (hvis : ∀ (w1 : World), Below w.heap.size w w1 → ∀ (s : TS) (gs : List Nat) (sv gv : Value) (x : Nat) (W : World), x < N.length → FS N U w1.heap.size (.slice a N.length cp) w1 W s gs sv gv → TI (EN N) N.length s [] → s.met x = 0 → s.many + cnt N.length s ≤ 12 → gs.length ≤ s.many →
      Calls Tryd.prog 72 #[.pointer (some ⟨w1.heap.size, 0, none⟩), .int .i64 x] W (VisP N U w1.heap.size (.slice a N.length cp) w1 s gs [] x)) :
    Calls Tryd.prog 53 #[.slice a N.length cp] w (GsP N w) := by
  have hNl := (nod_of hv).1
  have iv := inval_any (.slice a N.length cp) N w hU
  have hvis := Lib.hid hvis
  clear hU
  unfold GsP
  rw [hv] at iv ⊢
  obtain ⟨nn, hnn⟩ : ∃ n, Hid (N.length = n) := ⟨_, Lib.hid rfl⟩
  rw [hnn.out] at iv ⊢
  go_enter Tryd.func53, Tryd.ntmps53
  go_wp2_with fail
  refine iv.mono ?_
  rintro e w1 ⟨rfl, hb⟩
  have D := Lib.hid hb
  have F0 := Lib.hid (fun (W : World) => fs0 N U (.slice a N.length cp) w1 W)
  clear hb iv
  go_upto_region 3 with fail
  refine wp_region_lit ?_
  refine wpList_plain rfl fun K2 hK2 => ?_
  go_simp
  refine hK2 _ _ ?_
  clear hK2
  refine wpList_plain rfl fun K2 hK2 => ?_
  go_simp
  refine hK2 _ _ ?_
  clear hK2
  obtain ⟨vs, hvs⟩ : ∃ vs : Array Value, #[Value.slice a nn cp, .slice none 0 0, .int .i64 0, .int .i64 0, .int .i64 0, .int .i64 0, .int .i64 0, .int .i64 0, .int .i64 0, .int .i64 0, .int .i64 0, .int .i64 0, .int .i64 0, .int .i64 0, .int .i64 0, .pointer none, .pointer none, .pointer none, .pointer none, .pointer none, .pointer none, .pointer none, .pointer none, .pointer none, .pointer none, .pointer none, .pointer none, .slice none 0 0] = vs := ⟨_, rfl⟩
  rw [hvs]
  have hsz : vs.size = 28 := by rw [← hvs]; rfl
  refine wpList_plain rfl fun K2 hK2 => ?_
  go_simp
  refine hK2 _ _ ?_
  clear hK2
  obtain ⟨WZ, hWZ⟩ : ∃ W, w1.alloc (.cells #[Value.slice none 0 0, .slice none 0 0, .int .i64 0, .int .i64 0, .int .i64 0, .int .i64 0, .int .i64 0, .int .i64 0, .int .i64 0, .int .i64 0, .int .i64 0, .int .i64 0, .int .i64 0, .int .i64 0, .int .i64 0, .pointer none, .pointer none, .pointer none, .pointer none, .pointer none, .pointer none, .pointer none, .pointer none, .pointer none, .pointer none, .pointer none, .pointer none, .slice none 0 0] 93) = W := ⟨_, rfl⟩
  obtain ⟨WS, hst, hws, hbs⟩ := fin_store (P := Tryd.prog) w1 WZ _ vs 93 hWZ (by rw [hsz]; rfl) (by rw [← hvs]; intro v hv; simp at hv; rcases hv with rfl | rfl | rfl | rfl | rfl <;> rfl)
  rw [hWZ]
  rw [← hvs] at hws
  have hws := Lib.hid hws
  have hbs := Lib.hid hbs
  clear hWZ
  refine wpList_plain rfl fun K2 hK2 => ?_
  go_simp
  refine hK2 _ _ ?_
  clear hK2 hst hsz
  refine wpList_nil ?_
  clear hvs
  go_wp2_with fail
  have F1 : Hid (FS N U w1.heap.size (.slice a N.length cp) w1 WS s0 [] (.slice none 0 0) (.slice none 0 0)) := Lib.hid (F0.out WS hbs.out (by rw [hnn.out]; exact hws.out))
  clear F0 hws
  go_loopw [12] (fun i wr => ∃ (k : Nat) (s : TS) (gs : List Nat) (sv gv : Value), k ≤ nn ∧ i = .int .i64 k ∧ Hid (FS N U w1.heap.size (.slice a N.length cp) w1 wr s gs sv gv ∧ TI (EN N) N.length s [] ∧ (∀ i, i < k → s.met i ≠ 0) ∧ s.many + cnt N.length s ≤ 12 ∧ gs.length ≤ s.many)) (fun i _ => nn - (intOf i).toNat)
  case atStart =>
    refine ⟨0, s0, [], _, _, Nat.zero_le _, rfl, Lib.hid ⟨F1.out, ti0 _ _, fun i hi => absurd hi (Nat.not_lt_zero _), ?_, Nat.le_refl _⟩⟩
    have := cnt_le N.length s0
    show 0 + cnt N.length s0 ≤ 12
    omega
  case round =>
    clear F1 hbs
    obtain ⟨k, s, gs, sv, gv, hk, rfl, hS⟩ := hrel
    have hfl := hS.out.1.fi.lt
    by_cases hlt : k < nn
    · have k12 : k < 12 := by have := hnn.out; omega
      have ki : (k : Int) < 12 := by omega
      have m3 := hS.out.1.fi.metc k12
      unfold nv at m3
      by_cases hm : s.met k = 0
      · rw [hm] at m3
        have cl := hvis.out w1 D.out s gs sv gv k wr (by rw [hnn.out]; exact hlt) hS.out.1 hS.out.2.1 hm hS.out.2.2.2.1 hS.out.2.2.2.2
        go_wp2_with fail
        refine cl.mono ?_
        rintro e w3 ⟨q, t', gt', sv', gv', rfl, hF', hT', hc', hg'⟩
        have R := Lib.hid (⟨hF', hT'.ti, fun i hi => by
          by_cases e : i = k
          · rw [e]; exact hT'.mx
          · have h1 := hS.out.2.2.1 i (by omega)
            rw [hT'.tx.met i h1]; exact h1, hc', by have := hS.out.2.2.2.2; omega⟩ : FS N U w1.heap.size (.slice a N.length cp) w1 w3 t' gt' sv' gv' ∧ TI (EN N) N.length t' [] ∧ (∀ i, i < k + 1 → t'.met i ≠ 0) ∧ t'.many + cnt N.length t' ≤ 12 ∧ gt'.length ≤ t'.many)
        clear cl hF' hT' hc' hg' m3 hS
        go_wp2_with fail
        refine ⟨⟨k + 1, _, _, _, _, by omega, by go_num, R⟩, ?_⟩
        simp [intOf]; omega
      · have hmi : ¬ ((s.met k : Int) = 0) := by omega
        go_wp2_with fail
        refine ⟨⟨k + 1, s, gs, sv, gv, by omega, by go_num, Lib.hid ⟨hS.out.1, hS.out.2.1, fun i hi => ?_, hS.out.2.2.2.1, hS.out.2.2.2.2⟩⟩, ?_⟩
        · by_cases e : i = k
          · rw [e]; exact hm
          · exact hS.out.2.2.1 i (by omega)
        · simp [intOf]; omega
    · obtain rfl : k = nn := by omega
      obtain ⟨_, _, _, z3⟩ := hS.out.1.fi.cells
      go_wp2_with fail
      go_ret
      have hall := hS.out.2.1.full (fun i hi => hS.out.2.2.1 i (by rw [← hnn.out]; exact hi))
      refine ⟨gs, gv, U, rfl, row_base hS.out.1.grow (by have := D.out.size; omega), by have := hS.out.2.2.2.1; have := hS.out.2.2.2.2; omega, bstep D.out hS.out.1.bel, fun x => (nomatch x), fun _ => ⟨fun i hi => ?_, fun b hb => ?_⟩⟩
      · obtain ⟨b, hb⟩ := hall i hi
        exact ⟨b, (hS.out.1.mem b).2 ⟨i, hb⟩, hS.out.1.grp i b hb⟩
      · obtain ⟨i, hi⟩ := (hS.out.1.mem b).1 hb
        exact ⟨i, hS.out.2.1.lt i (hS.out.2.1.fm i b hi), hS.out.1.grp i b hi⟩

/-- THE GROUPS OF NODES. -/
theorem groups_any (u : Value) (N : List Nd) (w : World) (h : Nds w u N) :
    Calls Tryd.prog 53 #[u] w (GsP N w) := by
  cases hv : nodB N with
  | false => exact groups_no u N w h hv
  | true =>
    have h' := h
    obtain ⟨a, cap, rfl, h1, h2, h3⟩ := h
    rcases h3 with h3 | ⟨b, off, rfl, h4, h5⟩
    · exact groups_at a cap N (fun _ => (none, 0, 0)) w hv h' fun w1 _ s gs sv gv x W hx => absurd hx (by omega)
    · obtain ⟨U, hA⟩ := NdAt.of h4 h5
      exact groups_at _ cap N U w hv h' fun w1 hb s gs sv gv x W hx hF hT hm hc hg => visit_any _ b off cap N U w1 hv (hA.up hb (Nat.le_refl _)) (Nat.le_refl _) (cnt N.length s + 1) s gs sv gv [] x W (Nat.lt_succ_self _) hF hT hx hm (fun y hy => nomatch hy) (fun y hy => nomatch hy) hc hg
end Go.Proofs.YtbbnchodchgioaaDoor

/- The program's groupWith. -/
namespace Go.Proofs.YtbbnchodchgioaaDoor
open Go.RowKit
set_option linter.unusedVariables false

/-- A group, as its bits: what is asked of one node. -/
structure Gw (w : World) (gb : Nat) (N : List Nd) (a : Pid) (f r : Nat → Nat) (rd : Bool) : Prop where
  gb : ∃ mv, Gb w gb mv f r rd
  ids : Bits f (fun x => x ∈ groupR N a)
  rch : Bits r (fun x => x ∈ reachR N a)
  rdy : rd = readyR N a

theorem gw_of {w : World} {gb : Nat} {N : List Nd} {i : Nat} {f r : Nat → Nat} {rd : Bool} {mv : Value} (hv : nodB N = true) (hi : i < N.length) {a : Pid} (ha : a ∈ idsN N) (hG : Gb w gb mv f r rd) {Q : List Nat} (hM : GM N i Q f r rd) (hm : Sc (EI N) (N.getD i nd0).id a) : Gw w gb N a f r rd := by
  obtain ⟨j, hj, rfl⟩ := mem_idsN.1 ha
  have h := hM.move ((sc_iff hv hi hj).2 hm) hv hi hj
  refine ⟨⟨mv, hG⟩, h.ids.ext fun x => ?_, h.rch.ext fun x => ?_, ?_⟩
  · rw [mem_groupR]; exact ⟨fun hh => ⟨hv, ha, hh⟩, fun hh => hh.2.2⟩
  · rw [mem_reachR]; exact ⟨fun hh => ⟨hv, hh⟩, fun hh => hh.2⟩
  · exact Bool.eq_iff_iff.2 ⟨fun hr => readyR_iff.2 ⟨hv, ha, h.rdy.1 hr⟩, fun hq => h.rdy.2 (readyR_iff.1 hq).2.2⟩
theorem bits_same {f f' : Nat → Nat} {P P' : Pid → Prop} (h : Bits f P) (h' : Bits f' P') (e : ∀ k, k < 5 → f k = f' k) {x : Pid} (hx : P x) : P' x := by
  obtain ⟨pr, nr, rfl, hpr, _⟩ := ok_nat (h.ok x hx)
  rw [← h'.bit pr nr hpr, ← e pr hpr, h.bit pr nr hpr]; exact hx
theorem gb_same {w : World} {gb : Nat} {mv mv' : Value} {f f' r r' : Nat → Nat} {rd rd' : Bool} (h : Gb w gb mv f r rd) (h' : Gb w gb mv' f' r' rd') : ∀ k, k < 5 → f k = f' k := by
  intro k hk
  have := (h.cf hk).symm.trans (h'.cf hk)
  simp only [Option.some.injEq, Value.int.injEq, true_and] at this
  exact Int.ofNat.inj this
theorem gw_none {w : World} {gb : Nat} {N : List Nd} {a : Pid} {mv : Value} (h : ¬ (nodB N = true ∧ a ∈ idsN N)) (hG : Gb w gb mv (fun _ => 0) (fun _ => 0) false) : Gw w gb N a (fun _ => 0) (fun _ => 0) false := by
  refine ⟨⟨mv, hG⟩, Bits.zero.ext fun x => ⟨fun hh => hh.elim, fun hh => h ⟨(mem_groupR.1 hh).1, (mem_groupR.1 hh).2.1⟩⟩, Bits.zero.ext fun x => ⟨fun hh => hh.elim, fun hh => h ⟨(mem_reachR.1 hh).1, rp_l (mem_reachR.1 hh).2⟩⟩, ?_⟩
  cases hq : readyR N a with
  | false => rfl
  | true => exact absurd ⟨(readyR_iff.1 hq).1, (readyR_iff.1 hq).2.1⟩ h

/-- What groupWith leaves. -/
def GwP (N : List Nd) (a : Pid) (w : World) (e : Ending) (w' : World) : Prop := ∃ gb f r rd, e = .returned (.pointer (some ⟨gb, 0, none⟩)) ∧ Gw w' gb N a f r rd ∧ Below w.heap.size w w'

set_option maxRecDepth 100000 in
set_option maxHeartbeats 4000000 in
theorem gwith_any (u : Value) (N : List Nd) (x y : Int) (w : World) (h : Nds w u N) :
    Calls Tryd.prog 41 #[u, .agg #[.int .i64 x, .int .i64 y]] w (GwP N (x, y) w) := by
  have D0 := (Below.refl w.heap.size w).alloc (Nat.le_refl _) (.cells #[.int .i64 x, .int .i64 y] 25)
  have gr := groups_any u N _ (h.up D0 (Nat.le_refl _))
  have hI := Lib.hid (heap_alloc_new w (.cells #[.int .i64 x, .int .i64 y] 25))
  have D0 := Lib.hid D0
  clear h
  go_enter Tryd.func41, Tryd.ntmps41
  go_wp2_with fail
  refine gr.mono ?_
  rintro e w1 ⟨gs, gv, U, rfl, hrow, hgl, B, hno, hyes⟩
  have D1 := Lib.hid (bstep D0.out B)
  have hI := Lib.hid (bblk (b := w.heap.size) B (by simp) hI.out)
  have hrow := Lib.hid hrow
  have hno := Lib.hid hno
  have hyes := Lib.hid hyes
  obtain ⟨ga, gc, rfl⟩ := row_shape hrow.out
  clear B gr D0
  go_wp2_with fail
  obtain ⟨n, hn⟩ : ∃ n, Hid (gs.length = n) := ⟨_, Lib.hid rfl⟩
  rw [hn.out] at hgl ⊢
  go_loopw [10] (fun i wr => ∃ k : Nat, k ≤ n ∧ i = .int .i64 k ∧ Hid (∀ j, j < k → ∀ i, i < N.length → Grp w1 (gs.getD j 0) N U i → ¬ Sc (EI N) (N.getD i nd0).id (x, y)) ∧ Below w1.heap.size w1 wr) (fun i _ => n - (intOf i).toNat)
  case atStart => exact ⟨0, Nat.zero_le _, rfl, Lib.hid fun j hj => absurd hj (Nat.not_lt_zero _), Below.refl _ _⟩
  case round =>
    obtain ⟨k, hk, rfl, hd, hB⟩ := hrel
    by_cases hlt : k < n
    · have hv : nodB N = true := by
        cases hq : nodB N with
        | true => rfl
        | false => have := hno.out hq; rw [this] at hn; have := hn.out; simp at this; omega
      have hkl : k < gs.length := by rw [hn.out]; exact hlt
      obtain ⟨g4, c4, hge⟩ := own_some hrow.out (by omega)
      have c0 : w1.cell? ⟨g4, k, none⟩ = some (pv (gs.getD k 0)) := by
        have := hrow.out.cells (g := g4) (by rw [hge]; rfl) k (pv (gs.getD k 0)) (by rw [List.getElem?_map, List.getD_eq_getElem?_getD, List.getElem?_eq_getElem hkl]; rfl)
        rw [Addr.add_lit, Nat.zero_add] at this; exact this
      injection hge with hge _ hge3
      subst hge
      subst hge3
      have hbm : gs.getD k 0 ∈ gs := getD_memN hkl
      obtain ⟨i, hi, hG⟩ := (hyes.out hv).2 _ hbm
      obtain ⟨mb, mc, Q, f, r, rd, hG⟩ := hG
      obtain ⟨b, hb⟩ : ∃ b, Hid (gs.getD k 0 = b) := ⟨_, Lib.hid rfl⟩
      rw [hb.out] at c0 hG
      unfold pv at c0
      have c0 := (hB.cell (p := ⟨g4, k, none⟩) (World.block_lt_of_cell? _ _ c0)).trans c0
      have hg4 := World.block_lt_of_cell? _ _ c0
      have hGw := Lib.hid (hG.gb.same (hB.block b hG.gb.lt))
      have hG := Lib.hid hG
      obtain ⟨z1, z2, z3, z4, z5⟩ := hGw.out.fs
      obtain ⟨b0, b1, _, _⟩ := blk2 ((hB.block w.heap.size (lt_of_heap hI.out)).trans hI.out)
      have hs := fun W => has_any f _ x y W hG.out.gm.ids
      unfold setV at hs
      have hgl := hGw.out.lt
      have hil : w.heap.size < wr.heap.size := Nat.lt_of_lt_of_le (lt_of_heap hI.out) hB.size
      have hB := Lib.hid hB
      dsimp only at hg4
      go_wp2_with fail
      go_region_with (go_at_call 66; (with_reducible refine (hs _).mono ?_); rintro e w2 ⟨⟨q, rfl, hq⟩, B⟩; have D2 := Lib.hid (bstep (Below.drew hB.out) B); have hGw := Lib.hid (hGw.out.same ((B.block b hgl).trans rfl)); have hq := Lib.hid hq; clear B hB)
      all_goals
        cases q with
        | true =>
          have hm := hq.out.1 rfl
          have hx : (x, y) ∈ idsN N := sc_in hm (List.mem_map_of_mem (getD_mem hi))
          have R := Lib.hid (gw_of hv hi hx hGw.out hG.out.gm hm)
          clear hm hx hGw
          go_wp2_with fail
          go_ret
          exact ⟨b, f, r, rd, rfl, R.out, bstep D1.out D2.out⟩
        | false =>
          have hm : ¬ Sc (EI N) (N.getD i nd0).id (x, y) := fun h => nomatch (hq.out.2 h)
          have R := Lib.hid (up_to hd.out (fun i' hi' hG' => by
            rw [hb.out] at hG'
            obtain ⟨mb', mc', Q', f', r', rd', hG'⟩ := hG'
            exact fun h => hm (bits_same hG'.gm.ids hG.out.gm.ids (gb_same hG'.gb hG.out.gb) h)))
          clear hGw hm
          go_wp2_with fail
          go_roundw
          case rel => exact ⟨k + 1, by omega, by go_num, R, D2.out⟩
          case measure => simp [intOf]; omega
    · obtain rfl : k = n := by omega
      have hB := Lib.hid hB
      go_wp2_with fail
      go_ret
      refine ⟨wr.heap.size, fun _ => 0, fun _ => 0, false, rfl, gw_none ?_ (mv := .slice none 0 0) ?_, bstep D1.out (hB.out.alloc hB.out.size _)⟩
      · rintro ⟨hv, hx⟩
        obtain ⟨i, hi, he⟩ := mem_idsN.1 hx
        obtain ⟨b, hb, hG⟩ := (hyes.out hv).1 i hi
        obtain ⟨j, hj, rfl⟩ := List.mem_iff_getElem.1 hb
        refine hd.out j (by rw [← hn.out]; exact hj) i hi ?_ (by rw [he]; exact .refl _)
        rw [List.getD_eq_getElem?_getD, List.getElem?_eq_getElem hj]; exact hG
      · exact ⟨_, heap_alloc_new wr _, rfl, rfl, fun k hk => by rcases (show k = 0 ∨ k = 1 ∨ k = 2 ∨ k = 3 ∨ k = 4 by omega) with rfl | rfl | rfl | rfl | rfl <;> rfl, fun k hk => by rcases (show k = 0 ∨ k = 1 ∨ k = 2 ∨ k = 3 ∨ k = 4 by omega) with rfl | rfl | rfl | rfl | rfl <;> rfl, rfl⟩
end Go.Proofs.YtbbnchodchgioaaDoor

/- The program's NodesReach and NodesGroup. -/
namespace Go.Proofs.YtbbnchodchgioaaDoor
open Go.RowKit
set_option linter.unusedVariables false

/-- The ids of a set that stands for a list. -/
theorem idsO_bits {f : Nat → Nat} {L : List Pid} (h : Bits f (fun x => x ∈ L)) (hL : Asc L) : idsO f = L := by
  refine asc_ext (from_asc 5 0) hL fun x => ?_
  unfold idsO
  rw [mem_from]
  constructor
  · rintro ⟨r, n, rfl, _, hr, _, ht⟩
    exact (h.bit r n (by omega)).1 ht
  · intro hx
    obtain ⟨r, n, rfl, hr, _, hn⟩ := id_nat (h.ok x hx)
    exact ⟨r, n, rfl, Nat.zero_le _, by omega, by omega, (h.bit r n hr).2 hx⟩

set_option maxRecDepth 100000 in
theorem ireach_any (u : Value) (N : List Nd) (x y : Int) (w : World) (h : Nds w u N) (hT : TabIn w) :
    Calls Tryd.prog 15 #[u, .agg #[.int .i64 x, .int .i64 y]] w (RchP (reachR N (x, y)) w) := by
  have D0 := (Below.refl w.heap.size w).alloc (Nat.le_refl _) (.cells #[.int .i64 x, .int .i64 y] 25)
  have gr := gwith_any u N x y _ (h.up D0 (Nat.le_refl _))
  have D0 := Lib.hid D0
  have hT := Lib.hid hT
  clear h
  go_enter Tryd.func15, Tryd.ntmps15
  go_wp2_with fail
  refine gr.mono ?_
  rintro e w1 ⟨gb, f, r, rd, rfl, hG, B⟩
  obtain ⟨mv, hb⟩ := hG.gb
  obtain ⟨r0, r1, r2, r3, r4⟩ := hb.rs
  have hl := hb.lt
  have D1 := Lib.hid (bstep D0.out B)
  have si := idso_any (nrm r) w1 hG.rch.nrm_lt (hT.out.up D1.out (Nat.le_refl _))
  rw [nrm_set] at si
  unfold setV IdsoPost at si
  rw [idsO_bits hG.rch.nrm (reachR_asc N (x, y))] at si
  have hs := D1.out.size
  clear gr B hG hb D0
  go_wp2_with fail
  refine si.mono ?_
  rintro e w2 ⟨b, v, hb, rfl, hO, B⟩
  have D2 := Lib.hid (bstep D1.out B)
  have hO := Lib.hid hO
  clear B D1 si
  go_wp2_with fail
  go_ret
  exact ⟨b, v, by omega, rfl, hO.out, D2.out⟩

set_option maxRecDepth 100000 in
theorem igroup_any (u : Value) (N : List Nd) (x y : Int) (w : World) (h : Nds w u N) (hT : TabIn w) :
    Calls Tryd.prog 21 #[u, .agg #[.int .i64 x, .int .i64 y]] w (RchP (groupR N (x, y)) w) := by
  have D0 := (Below.refl w.heap.size w).alloc (Nat.le_refl _) (.cells #[.int .i64 x, .int .i64 y] 25)
  have gr := gwith_any u N x y _ (h.up D0 (Nat.le_refl _))
  have D0 := Lib.hid D0
  have hT := Lib.hid hT
  clear h
  go_enter Tryd.func21, Tryd.ntmps21
  go_wp2_with fail
  refine gr.mono ?_
  rintro e w1 ⟨gb, f, r, rd, rfl, hG, B⟩
  obtain ⟨mv, hb⟩ := hG.gb
  obtain ⟨r0, r1, r2, r3, r4⟩ := hb.fs
  have hl := hb.lt
  have D1 := Lib.hid (bstep D0.out B)
  have si := idso_any (nrm f) w1 hG.ids.nrm_lt (hT.out.up D1.out (Nat.le_refl _))
  rw [nrm_set] at si
  unfold setV IdsoPost at si
  rw [idsO_bits hG.ids.nrm (groupR_asc N (x, y))] at si
  have hs := D1.out.size
  clear gr B hG hb D0
  go_wp2_with fail
  refine si.mono ?_
  rintro e w2 ⟨b, v, hb, rfl, hO, B⟩
  have D2 := Lib.hid (bstep D1.out B)
  have hO := Lib.hid hO
  clear B D1 si
  go_wp2_with fail
  go_ret
  exact ⟨b, v, by omega, rfl, hO.out, D2.out⟩
end Go.Proofs.YtbbnchodchgioaaDoor

/- The walk of FnReachOn. -/
namespace Go.Proofs.YtbbnchodchgioaaDoor
open Go.RowKit
set_option linter.unusedVariables false

set_option maxRecDepth 100000 in
set_option maxHeartbeats 8000000 in
theorem fnReachOn_walk (a : Option Addr) (len cap : Nat) (a2 : Option Addr) (len2 cap2 : Nat) (w : World) (hc : CodeIn w a len cap) (hcap : cap ≤ maxLen) (hc2 : CodeIn w a2 len2 cap2) (hcap2 : cap2 ≤ maxLen) (hT : TabIn w) :
    Calls Tryd.prog 5 #[.slice a len cap, .slice a2 len2 cap2] w fun e w' => e = .returned (.bool true) ∧ Below w.heap.size w w' := by
  have hm : cap ≤ 9223372036854775807 := by simpa [maxLen] using hcap
  have hlc := hc.1
  have hm2 : cap2 ≤ 9223372036854775807 := by simpa [maxLen] using hcap2
  have hlc2 := hc2.1
  by_cases hl : 1048576 < len
  · clear hcap hc hT hc2 hcap2
    go_enter Tryd.func5, Tryd.ntmps5
    go_wp2_with fail
    go_ret
    exact ⟨rfl, Below.refl _ _⟩
  · by_cases hl2 : 1048576 < len2
    · clear hcap hc hT hc2 hcap2
      go_enter Tryd.func5, Tryd.ntmps5
      go_wp2_with fail
      go_ret
      exact ⟨rfl, Below.refl _ _⟩
    · have hc1 := Lib.hid hc
      have hcap1 := Lib.hid hcap
      replace hT := Lib.hid hT
      clear hc hcap hc2 hcap2
      go_enter Tryd.func5, Tryd.ntmps5
      go_wp2_with fail
      refine (dnr_any a len cap w hc1.out hcap1.out).mono ?_
      rintro e w0 ⟨u, N, x, y, rfl, hN, hNp, hNl, B⟩
      replace hT := Lib.hid (hT.out.up B (Nat.le_refl _))
      have D := Lib.hid B
      have A0 := heap_alloc_new w0 (.cells #[.int .i64 x, .int .i64 y] 25)
      have B0 := (Below.refl w0.heap.size w0).alloc (Nat.le_refl _) (.cells #[.int .i64 x, .int .i64 y] 25)
      have iv := ireach_any u N x y _ (hN.up B0 (Nat.le_refl _)) (hT.out.up B0 (Nat.le_refl _))
      have hT := Lib.hid (hT.out.up B0 (Nat.le_refl _))
      have hN := Lib.hid (hN.up B0 (Nat.le_refl _))
      replace D := Lib.hid (bstep D.out B0)
      obtain ⟨a0, a1, _, _⟩ := blk2 A0
      have A0 := Lib.hid A0
      clear hc1 hcap1 B B0
      go_wp2_with fail
      refine iv.mono ?_
      rintro e w1 ⟨b1, v1, hb1, rfl, hO, B⟩
      have hO := Lib.hid hO
      replace A0 := Lib.hid (bblk B (by simp) A0.out)
      obtain ⟨S, hS⟩ : ∃ S, Hid (reachR N (x, y) = S) := ⟨_, Lib.hid rfl⟩
      have hSl := reachR_len N (x, y)
      rw [hS.out] at hO hSl
      replace hT := Lib.hid (hT.out.up B (Nat.le_refl _))
      replace hN := Lib.hid (hN.out.up B (Nat.le_refl _))
      replace D := Lib.hid (bstep D.out B)
      clear B iv a0 a1
      obtain ⟨a0, a1, _, _⟩ := blk2 A0.out
      have hal := lt_of_heap A0.out
      have sv := sreachM_any u N x y _ hN.out
      rw [hS.out] at sv
      go_wp2_with fail
      refine sv.mono ?_
      rintro e w2 ⟨b2, v2, hb2, rfl, hP, B⟩
      have hP := Lib.hid hP
      replace hO := Lib.hid (hO.out.up B hO.out.lt)
      replace A0 := Lib.hid (bblk B (lt_of_heap A0.out) A0.out)
      replace hT := Lib.hid (hT.out.up B (Nat.le_refl _))
      replace hN := Lib.hid (hN.out.up B (Nat.le_refl _))
      replace D := Lib.hid (bstep D.out B)
      clear B sv a0 a1 hal
      obtain ⟨a0, a1, _, _⟩ := blk2 A0.out
      have hal := lt_of_heap A0.out
      have sm := fun W (hb : Below w2.heap.size w2 W) => same_any _ _ S W (hO.out.read.up hb (Nat.le_refl _)) (hP.out.read.up hb (Nat.le_refl _))
      go_wp2_with fail
      refine (sm _ (Below.refl _ _)).mono ?_
      rintro e w3 ⟨rfl, B⟩
      replace hO := Lib.hid (hO.out.up B hO.out.lt)
      replace hP := Lib.hid (hP.out.up B hP.out.lt)
      replace A0 := Lib.hid (bblk B (lt_of_heap A0.out) A0.out)
      replace hT := Lib.hid (hT.out.up B (Nat.le_refl _))
      replace hN := Lib.hid (hN.out.up B (Nat.le_refl _))
      replace D := Lib.hid (bstep D.out B)
      clear B a0 a1 hal sm
      obtain ⟨a0, a1, _, _⟩ := blk2 A0.out
      have hal := lt_of_heap A0.out
      obtain ⟨pc, rfl, hpc⟩ := hP.out.shape
      obtain ⟨oc, rfl, hoc⟩ := hO.out.shape
      obtain ⟨ns, hns⟩ : ∃ n, Hid (S.length = n) := ⟨_, Lib.hid rfl⟩
      have hsc := Lib.hid hO.out.cell
      have hol := hO.out.lt
      rw [hns.out] at hoc hpc hSl hO hP ⊢
      rcases Nat.eq_zero_or_pos ns with hz | hz
      · subst hz
        go_wp2_with fail
        refine (same_any _ _ S _ hO.out.read hP.out.read).mono ?_
        rintro e w9 ⟨rfl, B⟩
        replace D := Lib.hid (bstep D.out B)
        clear B
        go_wp2_with fail
        go_ret
        exact ⟨rfl, D.out⟩
      · have hn0 : ((ns : Int) == 0) = false := by simp; omega
        obtain ⟨j, hj⟩ : ∃ j : Nat, j = len2 % ns := ⟨_, rfl⟩
        have hjn : j < ns := by rw [hj]; exact Nat.mod_lt _ hz
        have hmod : (len2 : Int).tmod (ns : Int) = (j : Int) := by rw [hj, Int.tmod_eq_emod_of_nonneg (by omega)]; exact (Int.natCast_emod _ _).symm
        have hjS : j < S.length := by rw [hns.out]; exact hjn
        clear hj
        obtain ⟨c0, c1⟩ := hsc.out j hjS
        have hin : S.getD j nop ∈ reachR N (x, y) := by rw [hS.out]; exact getD_inL hjS
        generalize S.getD j nop = d at c0 c1 hin
        obtain ⟨p, q⟩ := d
        dsimp only at c0 c1
        have hin := Lib.hid hin
        have iv := ireach_any u N p q _ hN.out hT.out
        go_wp2_with fail
        refine iv.mono ?_
        rintro e w4 ⟨b4, v4, hb4, rfl, hX, B⟩
        replace hO := Lib.hid (hO.out.up B hO.out.lt)
        replace D := Lib.hid (bstep D.out B)
        clear B iv c0 c1 hP hN hT
        have hal := hX.lt
        obtain ⟨xc, rfl, hxc⟩ := hX.shape
        have hX := Lib.hid hX
        obtain ⟨X, hXr⟩ : ∃ X, Hid (reachR N (p, q) = X) := ⟨_, Lib.hid rfl⟩
        rw [hXr.out] at hX hxc ⊢
        obtain ⟨nx, hnx⟩ : ∃ n, Hid (X.length = n) := ⟨_, Lib.hid rfl⟩
        have hXl := reachR_len N (p, q)
        have hxs := Lib.hid hX.out.cell
        rw [hXr.out, hnx.out] at hXl
        rw [hnx.out] at hxc ⊢
        clear hX
        go_wp2_with fail
        go_loopw [10] (fun iv wr => ∃ i : Nat, i ≤ nx ∧ iv = .int .i64 i ∧ Hid (Below w4.heap.size w4 wr)) (fun iv _ => nx - (intOf iv).toNat)
        case atStart => exact ⟨0, Nat.zero_le _, rfl, Lib.hid (Below.refl _ _)⟩
        case round =>
          obtain ⟨i, hi, rfl, hE⟩ := hrel
          by_cases hlti : i < nx
          · have hiX : i < X.length := by rw [hnx.out]; exact hlti
            obtain ⟨y0, y1⟩ := hxs.out i hiX
            have hst := reach_step hin.out (x := X.getD i nop) (by rw [hXr.out]; exact getD_inL hiX)
            rw [hS.out] at hst
            generalize X.getD i nop = d at y0 y1 hst
            obtain ⟨p2, q2⟩ := d
            dsimp only at y0 y1
            have y0 := (hE.out.cell (p := ⟨b4, i * 2, none⟩) hal).trans y0
            have y1 := (hE.out.cell (p := ⟨b4, i * 2 + 1, none⟩) hal).trans y1
            have hal2 := Nat.lt_of_lt_of_le hal hE.out.size
            have lh := lhas_any _ S p2 q2 wr (hO.out.read.up hE.out (Nat.le_refl _))
            rw [hst] at lh
            clear hst
            go_wp2_with fail
            refine lh.mono ?_
            rintro e w5 ⟨rfl, B⟩
            have E2 := Lib.hid (bstep hE.out B)
            clear B lh y0 y1
            go_wp2_with fail
            refine ⟨⟨i + 1, by omega, by go_num, E2⟩, ?_⟩
            simp [intOf]; omega
          · have D2 := Lib.hid (bstep D.out hE.out)
            have hgi : ¬ ((i : Int) < nx) := by omega
            go_wp2_with fail
            go_ret
            exact ⟨rfl, D2.out⟩
end Go.Proofs.YtbbnchodchgioaaDoor
