/- Texts laid together. -/
import Derived.Test.YtbbnchodchgioaaDoorC03
import Derived.Deep.RegionWith
import Derived.Deep.RegionHeld3
import Derived.Deep.RegionLaw
import Derived.Maps.AppendAt
/- Draws of nodes: l91Nodes, DrawNodesOrder. -/
namespace Go.Proofs.YtbbnchodchgioaaDoor
open Go.RowKit
set_option linter.unusedVariables false

/-- What l91Nodes leaves. -/
def NdsPost (r n : Nat) (w : World) (e : Ending) (w' : World) : Prop :=
  ∃ v N, e = .returned v ∧ NdO w' w.heap.size v N ∧ 0 < N.length ∧ N.length ≤ 8 ∧ Rd w' r (n + 200) ∧ Keep w.heap.size r w w'

set_option maxRecDepth 100000 in
set_option maxHeartbeats 8000000 in
theorem nodes_any (r n : Nat) (w : World) (hrd : Rd w r n) (hn : n ≤ 800000000) :
    Calls Tryd.prog 52 #[.pointer (some ⟨r, 0, none⟩)] w (NdsPost r n w) := by
  have hrl := hrd.lt
  obtain ⟨i0, hi, hz0, hz1, hz2⟩ := info_parts infoP
  obtain ⟨j0, hj0, jz0, jz1, jz2⟩ := info_parts info_nd
  have hO0 : OwnP (w.alloc (.cells #[] 25)) w.heap.size (.slice (some ⟨w.heap.size, 0, none⟩) 0 0) [] := ⟨0, _, _, rfl, heap_alloc_new w _, Nat.le_refl _, Nat.zero_le _, fun i hi => absurd hi (Nat.not_lt_zero _)⟩
  have hO0 := Lib.hid hO0
  have hrd := Lib.hid hrd
  go_enter Tryd.func52, Tryd.ntmps52
  go_wp2_with fail
  refine (pick_any 7 r n _ (hrd.out.alloc _) (by omega)).mono ?_
  rintro e w1 ⟨m, rfl, m0, m1', hr1, hk1⟩
  have m1 := m1' (by omega)
  have s1 : w.heap.size + 1 ≤ w1.heap.size := by simpa using hk1.size
  have K1 := Lib.hid (((Keep.refl w.heap.size r w).alloc (Nat.le_refl _) (.cells #[] 25)).trans (hk1.mono (by simp)))
  have hO1 := Lib.hid (hO0.out.cons hk1 (by omega))
  have hr1 := Lib.hid hr1
  obtain ⟨m, rfl⟩ := Int.eq_ofNat_of_zero_le m0
  have hm6 : m ≤ 6 := by omega
  clear hk1 hO0 m1' hrd m0 m1
  go_wp2_with fail
  go_loopw [3, 5] (fun v i wr => ∃ (k : Nat) (cb : Nat) (C : List Pid), k ≤ m + 1 ∧ i = .int .i64 k ∧ C.length ≤ k ∧ (0 < k → 0 < C.length) ∧ w.heap.size ≤ cb ∧ Hid (OwnP wr cb v C) ∧ Hid (Rd wr r (n + 1 + 2 * k)) ∧ Hid (Keep w.heap.size r w wr)) (fun _ i _ => m + 1 - (intOf i).toNat)
  case atStart => exact ⟨0, w.heap.size, [], by omega, rfl, Nat.zero_le _, fun h => absurd h (Nat.lt_irrefl _), Nat.le_refl _, hO1, hr1, K1⟩
  case round =>
    clear hO1 hr1 K1
    obtain ⟨k, cb, C, hk, rfl, hC, hC0, hcb, hO, hr, hK⟩ := hrel
    obtain ⟨cc, rfl, hcc⟩ := hO.out.shape
    have hKs := hK.out.size
    by_cases hlt : k < m + 1
    · go_wp2_with fail
      refine (pick_any 3 r _ _ hr.out (by omega)).mono ?_
      rintro e w2 ⟨x, rfl, x0, x1', hr2, hk2⟩
      have hO2 := Lib.hid (hO.out.cons hk2 (by omega))
      have K2 := Lib.hid (hK.out.trans (hk2.mono hKs))
      have hr2 := Lib.hid hr2
      have hs2 := hk2.size
      clear hk2 hO hK hr x1'
      go_wp2_with fail
      refine (pick_any 3 r _ _ hr2.out (by omega)).mono ?_
      rintro e w3 ⟨y, rfl, y0, y1', hr3, hk3⟩
      have y1 := y1' (by omega)
      have hO3 := Lib.hid (hO2.out.cons hk3 (by omega))
      have K3 := Lib.hid (K2.out.trans (hk3.mono (by omega)))
      have hr3 := Lib.hid hr3
      have hs3 := hk3.size
      clear hk3 hO2 K2 hr2 y1'
      have sp := fun x y => sput_at cb 0 cc C x y w3 hO3.out.lt (by omega) (fun i hi => by rw [Nat.zero_add]; exact hO3.out.cell i hi)
      go_wp2_with fail
      refine (sp _ _).mono ?_
      rintro e w4 ⟨b', u, hb', rfl, hO4, B⟩
      have hp := put_pos C (x, 1 + y)
      have hl := (len_putP C (x, 1 + y)).2
      have hr4 := Lib.hid (hr3.out.kept (B.mono (Nat.succ_le_of_lt hr3.out.lt)))
      have K4 := Lib.hid (K3.out.trans (Keep.of_below (B.mono (by omega))))
      generalize putP C (x, 1 + y) = C4 at hO4 hp hl
      have hO4 := Lib.hid hO4
      clear hO3 K3 hr3 B sp
      go_wp2_with fail
      refine ⟨⟨k + 1, b', C4, by omega, by go_num, by omega, fun _ => hp, by omega, hO4, Lib.hid (hr4.out.more (by omega)), K4⟩, ?_⟩
      simp [intOf]; omega
    · have hge : ¬ ((k : Int) < 1 + m) := by omega
      have hCp := hC0 (by omega)
      have Z0 : Hid (ZS w (wr.alloc (.cells #[] 32)) r (n + 20) cb cc C (.slice (some ⟨wr.heap.size, 0, none⟩) 0 0) []) := by
        have b := (Below.refl wr.heap.size wr).alloc (Nat.le_refl _) (.cells #[] 32)
        exact Lib.hid ⟨(hr.out.alloc _).more (by omega), hK.out.trans (Keep.of_below (b.mono hKs)), hO.out.up b hO.out.lt, hcb, fun e => (by simp [Value.ownBlock] at e; have := hO.out.lt; omega), nr_new wr _ hKs⟩
      obtain ⟨nc, hnc⟩ : ∃ x, Hid (C.length = x) := ⟨_, Lib.hid rfl⟩
      rw [hnc.out] at hC hCp ⊢
      have hnc7 : nc ≤ 7 := by omega
      clear hO hr hK hC0 hcc
      go_wp2_with fail
      go_loopw [6, 7] (fun vo i wr => ∃ (L : DL), L.length ≤ nc ∧ i = .int .i64 L.length ∧ Hid (ZS w wr r (n + 20 + L.length * 12) cb cc C vo L)) (fun _ i _ => nc - (intOf i).toNat)
      case atStart => exact ⟨[], Nat.zero_le _, rfl, Z0⟩
      case round =>
        clear Z0
        obtain ⟨L, hL, rfl, hZ⟩ := hrel
        have hZl := hZ.out.kp.size
        obtain ⟨j, hj⟩ : ∃ x, Hid (L.length = x) := ⟨_, Lib.hid rfl⟩
        rw [hj.out] at hL hZ ⊢
        by_cases hlt : j < nc
        · have hjC : j < C.length := by rw [hnc.out]; exact hlt
          obtain ⟨c0, c1⟩ := hZ.out.ids.cell j hjC
          obtain ⟨d, hd⟩ : ∃ d, Hid (C.getD j nop = d) := ⟨_, Lib.hid rfl⟩
          rw [hd.out] at c0 c1
          obtain ⟨p, q⟩ := d
          dsimp only at c0 c1
          have hcl := hZ.out.ids.lt
          go_wp2_with fail
          have hrl2 : r < wr.heap.size := by omega
          have hcr : cb ≠ r := by have := hZ.out.cb0; omega
          go_upto_region 11 with fail
          go_cut [8] from 35 to 43 (fun s8 wx => ∃ (xb nb : Nat) (sq : Int), s8 = .pointer (some ⟨xb, 0, none⟩) ∧ Hid (YS wr wx r (n + 20 + j * 12 + 1) xb p q sq (.slice (some ⟨nb, 0, none⟩) 0 0) (.slice (some ⟨nb, 0, none⟩) 0 0) []))
          case first =>
            -- R11A
            have P0 := Lib.hid (PS.start hZ.out.rd)
            refine wp_region_held_drew (S := fun w' => w'.cell? ⟨cb, j * 2, none⟩ = some (.int .i64 p) ∧ w'.cell? ⟨cb, j * 2 + 1, none⟩ = some (.int .i64 q)) (by kernel_rfl) ⟨c0, c1⟩ (fun hHeld => ?_)
            generalize wr.drew = V0 at P0 hHeld ⊢
            refine wpAnyH_take (i := 0) (oi := ⟨some 35, _, _, _, _, _⟩) (v := ?_) rfl (by kernel_rfl) (by kernel_rfl) (by kernel_rfl) (fun _ _ _ h => h) (Or.inl ⟨by rfl, ?_⟩) (by assumption) ?_
            rotate_left 1
            · intro w hSw; (try dsimp only at hSw); go_simp; try (with_reducible rfl)
            try simp only [Act.put, List.setIfInBounds_toArray, List.set_cons_zero, List.set_cons_succ]
            refine wpAnyH_take (i := 1) (oi := ⟨some 36, _, _, _, _, _⟩) (v := ?_) rfl (by kernel_rfl) (by kernel_rfl) (by kernel_rfl) (fun _ _ _ h => h) (Or.inl ⟨by rfl, ?_⟩) (by assumption) ?_
            rotate_left 1
            · intro w hSw; (try dsimp only at hSw); go_simp; try (with_reducible rfl)
            try simp only [Act.put, List.setIfInBounds_toArray, List.set_cons_zero, List.set_cons_succ]
            refine wpAnyH_take (i := 2) (oi := ⟨some 37, _, _, _, _, _⟩) (v := ?_) rfl (by kernel_rfl) (by kernel_rfl) (by kernel_rfl) (fun _ _ _ h => h) (Or.inl ⟨by rfl, ?_⟩) (by assumption) ?_
            rotate_left 1
            · intro w hSw; (try dsimp only at hSw); go_simp; try (with_reducible rfl)
            try simp only [Act.put, List.setIfInBounds_toArray, List.set_cons_zero, List.set_cons_succ]
            refine wpAnyH_take (i := 3) (oi := ⟨some 38, _, _, _, _, _⟩) (v := ?_) rfl (by kernel_rfl) (by kernel_rfl) (by kernel_rfl) (fun _ _ _ h => h) (Or.inl ⟨by rfl, ?_⟩) (by assumption) ?_
            rotate_left 1
            · intro w hSw; (try dsimp only at hSw); go_simp; try (with_reducible rfl)
            try simp only [Act.put, List.setIfInBounds_toArray, List.set_cons_zero, List.set_cons_succ]
            refine wpAnyH_take (i := 4) (oi := ⟨some 39, _, _, _, _, _⟩) (v := ?_) rfl (by kernel_rfl) (by kernel_rfl) (by kernel_rfl) (fun _ _ _ h => h) (Or.inl ⟨by rfl, ?_⟩) (by assumption) ?_
            rotate_left 1
            · intro w hSw; (try dsimp only at hSw); go_simp; try (with_reducible rfl)
            try simp only [Act.put, List.setIfInBounds_toArray, List.set_cons_zero, List.set_cons_succ]
            refine wpAnyH_ready (rs := [5, 7, 9]) (by kernel_rfl) (by simp) ?_
            refine AllReadyH.cons (o := ⟨some 40, _, _, _, _, _⟩) rfl (fun K hK => ?_) ?_
            · go_simp
              refine (pick_any 5 r _ _ P0.out.rd (by omega)).mono ?_
              rintro e w2 ⟨s, rfl, s0, s1', hr', hk'⟩
              have s1 := s1' (by omega)
              have P1 := Lib.hid (P0.out.keep hrl2 hr' hk')
              clear s1' hr' hk'
              go_wp2_with fail
              refine hK.out _ _ ?_ (fun hHeld2 => ?_)
              · exact ⟨kp_cell P1.out.kp hcl hcr c0, kp_cell P1.out.kp hcl hcr c1⟩
              clear hK K hHeld P0
              have hHeld := hHeld2
              clear hHeld2
              try simp only [Act.put, List.setIfInBounds_toArray, List.set_cons_zero, List.set_cons_succ]
              refine wpAnyH_take (i := 6) (oi := ⟨some 41, _, _, _, _, _⟩) (v := ?_) rfl (by kernel_rfl) (by kernel_rfl) (by kernel_rfl) (fun _ _ _ h => h) (Or.inl ⟨by rfl, ?_⟩) (by assumption) ?_
              rotate_left 1
              · intro w hSw; (try dsimp only at hSw); go_simp; try (with_reducible rfl)
              try simp only [Act.put, List.setIfInBounds_toArray, List.set_cons_zero, List.set_cons_succ]
              refine wpAnyH_ready (rs := [7, 9]) (by kernel_rfl) (by simp) ?_
              refine AllReadyH.cons (o := ⟨some 42, _, _, _, _, _⟩) rfl (fun K hK => ?_) ?_
              · have P2 := Lib.hid (P1.out.list hrl2)
                go_simp
                generalize (w2.alloc (.cells #[] 25)) = V2 at P2 ⊢
                refine hK.out _ _ ?_ (fun hHeld2 => ?_)
                · exact ⟨kp_cell P2.out.kp hcl hcr c0, kp_cell P2.out.kp hcl hcr c1⟩
                clear hK K hHeld P1
                have hHeld := hHeld2
                clear hHeld2
                try simp only [Act.put, List.setIfInBounds_toArray, List.set_cons_zero, List.set_cons_succ]
                refine wpAnyH_take (i := 8) (oi := ⟨some 43, _, _, _, _, _⟩) (v := ?_) rfl (by kernel_rfl) (by kernel_rfl) (by kernel_rfl) (fun _ _ _ h => h) (Or.inl ⟨by rfl, ?_⟩) (by assumption) ?_
                rotate_left 1
                · intro w hSw; (try dsimp only at hSw); go_simp; try (with_reducible rfl)
                try simp only [Act.put, List.setIfInBounds_toArray, List.set_cons_zero, List.set_cons_succ]
                refine wpAnyH_ready (rs := [9]) (by kernel_rfl) (by simp) ?_
                refine AllReadyH.cons (o := ⟨some 8, _, _, _, _, _⟩) rfl (fun K hK => ?_) AllReadyH.nil
                have P3 := Lib.hid (P2.out.box hrl2)
                go_simp
                generalize (V2.alloc (.cells #[.int .i64 0, .int .i64 0, .int .i64 0, .slice none 0 0] 32)) = V3 at P3 ⊢
                refine hK.out _ _ ?_ (fun hHeld2 => ?_)
                · exact ⟨kp_cell P3.out.kp hcl hcr c0, kp_cell P3.out.kp hcl hcr c1⟩
                clear hK K hHeld P2
                have hHeld := hHeld2
                clear hHeld2
                try simp only [Act.put, List.setIfInBounds_toArray, List.set_cons_zero, List.set_cons_succ]
                have hY := P3.out.made hrl2 p q (IntKind.i64.wrap (1 + s))
                obtain ⟨x0, x1⟩ := P3.out.bx _ rfl
                obtain ⟨⟨b0, b1, b2, b3⟩, f0, f1, f2, f3⟩ := four_z x1
                have hxl := lt_of_heap x1
                refine wpAnyH_ready (rs := [10]) (by kernel_rfl) (by simp) ?_
                refine AllReadyH.cons (o := ⟨none, _, _, _, _, _⟩) rfl (fun K hK => ?_) AllReadyH.nil
                go_simp
                refine hK.out _ _ ?_ (fun hHeld2 => ?_)
                · exact ⟨kp_cell hY.kp hcl hcr c0, kp_cell hY.kp hcl hcr c1⟩
                clear hK K hHeld P3 b0 b1 b2 b3 f0 f1 f2 f3 x0 x1 hHeld2
                have hY := Lib.hid hY
                try simp only [Act.put, List.setIfInBounds_toArray, List.set_cons_zero, List.set_cons_succ]
                refine wpAnyH_done (by kernel_rfl) ?_ _
                try simp only [Act.put, List.setIfInBounds_toArray, List.set_cons_zero, List.set_cons_succ]
                go_wp2_with fail
                go_meet
                exact ⟨_, _, _, rfl, hY⟩
              refine AllReadyH.cons (o := ⟨some 8, _, _, _, _, _⟩) rfl (fun K hK => ?_) AllReadyH.nil
              have P2 := Lib.hid (P1.out.box hrl2)
              go_simp
              generalize (w2.alloc (.cells #[.int .i64 0, .int .i64 0, .int .i64 0, .slice none 0 0] 32)) = V2 at P2 ⊢
              refine hK.out _ _ ?_ (fun hHeld2 => ?_)
              · exact ⟨kp_cell P2.out.kp hcl hcr c0, kp_cell P2.out.kp hcl hcr c1⟩
              clear hK K hHeld P1
              have hHeld := hHeld2
              clear hHeld2
              try simp only [Act.put, List.setIfInBounds_toArray, List.set_cons_zero, List.set_cons_succ]
              refine wpAnyH_ready (rs := [7]) (by kernel_rfl) (by simp) ?_
              refine AllReadyH.cons (o := ⟨some 42, _, _, _, _, _⟩) rfl (fun K hK => ?_) AllReadyH.nil
              have P3 := Lib.hid (P2.out.list hrl2)
              go_simp
              generalize (V2.alloc (.cells #[] 25)) = V3 at P3 ⊢
              refine hK.out _ _ ?_ (fun hHeld2 => ?_)
              · exact ⟨kp_cell P3.out.kp hcl hcr c0, kp_cell P3.out.kp hcl hcr c1⟩
              clear hK K hHeld P2
              have hHeld := hHeld2
              clear hHeld2
              try simp only [Act.put, List.setIfInBounds_toArray, List.set_cons_zero, List.set_cons_succ]
              refine wpAnyH_take (i := 8) (oi := ⟨some 43, _, _, _, _, _⟩) (v := ?_) rfl (by kernel_rfl) (by kernel_rfl) (by kernel_rfl) (fun _ _ _ h => h) (Or.inl ⟨by rfl, ?_⟩) (by assumption) ?_
              rotate_left 1
              · intro w hSw; (try dsimp only at hSw); go_simp; try (with_reducible rfl)
              try simp only [Act.put, List.setIfInBounds_toArray, List.set_cons_zero, List.set_cons_succ]
              have hY := P3.out.made hrl2 p q (IntKind.i64.wrap (1 + s))
              obtain ⟨x0, x1⟩ := P3.out.bx _ rfl
              obtain ⟨⟨b0, b1, b2, b3⟩, f0, f1, f2, f3⟩ := four_z x1
              have hxl := lt_of_heap x1
              refine wpAnyH_ready (rs := [10]) (by kernel_rfl) (by simp) ?_
              refine AllReadyH.cons (o := ⟨none, _, _, _, _, _⟩) rfl (fun K hK => ?_) AllReadyH.nil
              go_simp
              refine hK.out _ _ ?_ (fun hHeld2 => ?_)
              · exact ⟨kp_cell hY.kp hcl hcr c0, kp_cell hY.kp hcl hcr c1⟩
              clear hK K hHeld P3 b0 b1 b2 b3 f0 f1 f2 f3 x0 x1 hHeld2
              have hY := Lib.hid hY
              try simp only [Act.put, List.setIfInBounds_toArray, List.set_cons_zero, List.set_cons_succ]
              refine wpAnyH_done (by kernel_rfl) ?_ _
              try simp only [Act.put, List.setIfInBounds_toArray, List.set_cons_zero, List.set_cons_succ]
              go_wp2_with fail
              go_meet
              exact ⟨_, _, _, rfl, hY⟩
            refine AllReadyH.cons (o := ⟨some 42, _, _, _, _, _⟩) rfl (fun K hK => ?_) ?_
            · have P1 := Lib.hid (P0.out.list hrl2)
              go_simp
              generalize (V0.alloc (.cells #[] 25)) = V1 at P1 ⊢
              refine hK.out _ _ ?_ (fun hHeld2 => ?_)
              · exact ⟨kp_cell P1.out.kp hcl hcr c0, kp_cell P1.out.kp hcl hcr c1⟩
              clear hK K hHeld P0
              have hHeld := hHeld2
              clear hHeld2
              try simp only [Act.put, List.setIfInBounds_toArray, List.set_cons_zero, List.set_cons_succ]
              refine wpAnyH_ready (rs := [5, 9]) (by kernel_rfl) (by simp) ?_
              refine AllReadyH.cons (o := ⟨some 40, _, _, _, _, _⟩) rfl (fun K hK => ?_) ?_
              · go_simp
                refine (pick_any 5 r _ _ P1.out.rd (by omega)).mono ?_
                rintro e w3 ⟨s, rfl, s0, s1', hr', hk'⟩
                have s1 := s1' (by omega)
                have P2 := Lib.hid (P1.out.keep hrl2 hr' hk')
                clear s1' hr' hk'
                go_wp2_with fail
                refine hK.out _ _ ?_ (fun hHeld2 => ?_)
                · exact ⟨kp_cell P2.out.kp hcl hcr c0, kp_cell P2.out.kp hcl hcr c1⟩
                clear hK K hHeld P1
                have hHeld := hHeld2
                clear hHeld2
                try simp only [Act.put, List.setIfInBounds_toArray, List.set_cons_zero, List.set_cons_succ]
                refine wpAnyH_take (i := 6) (oi := ⟨some 41, _, _, _, _, _⟩) (v := ?_) rfl (by kernel_rfl) (by kernel_rfl) (by kernel_rfl) (fun _ _ _ h => h) (Or.inl ⟨by rfl, ?_⟩) (by assumption) ?_
                rotate_left 1
                · intro w hSw; (try dsimp only at hSw); go_simp; try (with_reducible rfl)
                try simp only [Act.put, List.setIfInBounds_toArray, List.set_cons_zero, List.set_cons_succ]
                refine wpAnyH_take (i := 8) (oi := ⟨some 43, _, _, _, _, _⟩) (v := ?_) rfl (by kernel_rfl) (by kernel_rfl) (by kernel_rfl) (fun _ _ _ h => h) (Or.inl ⟨by rfl, ?_⟩) (by assumption) ?_
                rotate_left 1
                · intro w hSw; (try dsimp only at hSw); go_simp; try (with_reducible rfl)
                try simp only [Act.put, List.setIfInBounds_toArray, List.set_cons_zero, List.set_cons_succ]
                refine wpAnyH_ready (rs := [9]) (by kernel_rfl) (by simp) ?_
                refine AllReadyH.cons (o := ⟨some 8, _, _, _, _, _⟩) rfl (fun K hK => ?_) AllReadyH.nil
                have P3 := Lib.hid (P2.out.box hrl2)
                go_simp
                generalize (w3.alloc (.cells #[.int .i64 0, .int .i64 0, .int .i64 0, .slice none 0 0] 32)) = V3 at P3 ⊢
                refine hK.out _ _ ?_ (fun hHeld2 => ?_)
                · exact ⟨kp_cell P3.out.kp hcl hcr c0, kp_cell P3.out.kp hcl hcr c1⟩
                clear hK K hHeld P2
                have hHeld := hHeld2
                clear hHeld2
                try simp only [Act.put, List.setIfInBounds_toArray, List.set_cons_zero, List.set_cons_succ]
                have hY := P3.out.made hrl2 p q (IntKind.i64.wrap (1 + s))
                obtain ⟨x0, x1⟩ := P3.out.bx _ rfl
                obtain ⟨⟨b0, b1, b2, b3⟩, f0, f1, f2, f3⟩ := four_z x1
                have hxl := lt_of_heap x1
                refine wpAnyH_ready (rs := [10]) (by kernel_rfl) (by simp) ?_
                refine AllReadyH.cons (o := ⟨none, _, _, _, _, _⟩) rfl (fun K hK => ?_) AllReadyH.nil
                go_simp
                refine hK.out _ _ ?_ (fun hHeld2 => ?_)
                · exact ⟨kp_cell hY.kp hcl hcr c0, kp_cell hY.kp hcl hcr c1⟩
                clear hK K hHeld P3 b0 b1 b2 b3 f0 f1 f2 f3 x0 x1 hHeld2
                have hY := Lib.hid hY
                try simp only [Act.put, List.setIfInBounds_toArray, List.set_cons_zero, List.set_cons_succ]
                refine wpAnyH_done (by kernel_rfl) ?_ _
                try simp only [Act.put, List.setIfInBounds_toArray, List.set_cons_zero, List.set_cons_succ]
                go_wp2_with fail
                go_meet
                exact ⟨_, _, _, rfl, hY⟩
              refine AllReadyH.cons (o := ⟨some 8, _, _, _, _, _⟩) rfl (fun K hK => ?_) AllReadyH.nil
              have P2 := Lib.hid (P1.out.box hrl2)
              go_simp
              generalize (V1.alloc (.cells #[.int .i64 0, .int .i64 0, .int .i64 0, .slice none 0 0] 32)) = V2 at P2 ⊢
              refine hK.out _ _ ?_ (fun hHeld2 => ?_)
              · exact ⟨kp_cell P2.out.kp hcl hcr c0, kp_cell P2.out.kp hcl hcr c1⟩
              clear hK K hHeld P1
              have hHeld := hHeld2
              clear hHeld2
              try simp only [Act.put, List.setIfInBounds_toArray, List.set_cons_zero, List.set_cons_succ]
              refine wpAnyH_ready (rs := [5]) (by kernel_rfl) (by simp) ?_
              refine AllReadyH.cons (o := ⟨some 40, _, _, _, _, _⟩) rfl (fun K hK => ?_) AllReadyH.nil
              go_simp
              refine (pick_any 5 r _ _ P2.out.rd (by omega)).mono ?_
              rintro e w4 ⟨s, rfl, s0, s1', hr', hk'⟩
              have s1 := s1' (by omega)
              have P3 := Lib.hid (P2.out.keep hrl2 hr' hk')
              clear s1' hr' hk'
              go_wp2_with fail
              refine hK.out _ _ ?_ (fun hHeld2 => ?_)
              · exact ⟨kp_cell P3.out.kp hcl hcr c0, kp_cell P3.out.kp hcl hcr c1⟩
              clear hK K hHeld P2
              have hHeld := hHeld2
              clear hHeld2
              try simp only [Act.put, List.setIfInBounds_toArray, List.set_cons_zero, List.set_cons_succ]
              refine wpAnyH_take (i := 6) (oi := ⟨some 41, _, _, _, _, _⟩) (v := ?_) rfl (by kernel_rfl) (by kernel_rfl) (by kernel_rfl) (fun _ _ _ h => h) (Or.inl ⟨by rfl, ?_⟩) (by assumption) ?_
              rotate_left 1
              · intro w hSw; (try dsimp only at hSw); go_simp; try (with_reducible rfl)
              try simp only [Act.put, List.setIfInBounds_toArray, List.set_cons_zero, List.set_cons_succ]
              refine wpAnyH_take (i := 8) (oi := ⟨some 43, _, _, _, _, _⟩) (v := ?_) rfl (by kernel_rfl) (by kernel_rfl) (by kernel_rfl) (fun _ _ _ h => h) (Or.inl ⟨by rfl, ?_⟩) (by assumption) ?_
              rotate_left 1
              · intro w hSw; (try dsimp only at hSw); go_simp; try (with_reducible rfl)
              try simp only [Act.put, List.setIfInBounds_toArray, List.set_cons_zero, List.set_cons_succ]
              have hY := P3.out.made hrl2 p q (IntKind.i64.wrap (1 + s))
              obtain ⟨x0, x1⟩ := P3.out.bx _ rfl
              obtain ⟨⟨b0, b1, b2, b3⟩, f0, f1, f2, f3⟩ := four_z x1
              have hxl := lt_of_heap x1
              refine wpAnyH_ready (rs := [10]) (by kernel_rfl) (by simp) ?_
              refine AllReadyH.cons (o := ⟨none, _, _, _, _, _⟩) rfl (fun K hK => ?_) AllReadyH.nil
              go_simp
              refine hK.out _ _ ?_ (fun hHeld2 => ?_)
              · exact ⟨kp_cell hY.kp hcl hcr c0, kp_cell hY.kp hcl hcr c1⟩
              clear hK K hHeld P3 b0 b1 b2 b3 f0 f1 f2 f3 x0 x1 hHeld2
              have hY := Lib.hid hY
              try simp only [Act.put, List.setIfInBounds_toArray, List.set_cons_zero, List.set_cons_succ]
              refine wpAnyH_done (by kernel_rfl) ?_ _
              try simp only [Act.put, List.setIfInBounds_toArray, List.set_cons_zero, List.set_cons_succ]
              go_wp2_with fail
              go_meet
              exact ⟨_, _, _, rfl, hY⟩
            refine AllReadyH.cons (o := ⟨some 8, _, _, _, _, _⟩) rfl (fun K hK => ?_) AllReadyH.nil
            have P1 := Lib.hid (P0.out.box hrl2)
            go_simp
            generalize (V0.alloc (.cells #[.int .i64 0, .int .i64 0, .int .i64 0, .slice none 0 0] 32)) = V1 at P1 ⊢
            refine hK.out _ _ ?_ (fun hHeld2 => ?_)
            · exact ⟨kp_cell P1.out.kp hcl hcr c0, kp_cell P1.out.kp hcl hcr c1⟩
            clear hK K hHeld P0
            have hHeld := hHeld2
            clear hHeld2
            try simp only [Act.put, List.setIfInBounds_toArray, List.set_cons_zero, List.set_cons_succ]
            refine wpAnyH_ready (rs := [5, 7]) (by kernel_rfl) (by simp) ?_
            refine AllReadyH.cons (o := ⟨some 40, _, _, _, _, _⟩) rfl (fun K hK => ?_) ?_
            · go_simp
              refine (pick_any 5 r _ _ P1.out.rd (by omega)).mono ?_
              rintro e w3 ⟨s, rfl, s0, s1', hr', hk'⟩
              have s1 := s1' (by omega)
              have P2 := Lib.hid (P1.out.keep hrl2 hr' hk')
              clear s1' hr' hk'
              go_wp2_with fail
              refine hK.out _ _ ?_ (fun hHeld2 => ?_)
              · exact ⟨kp_cell P2.out.kp hcl hcr c0, kp_cell P2.out.kp hcl hcr c1⟩
              clear hK K hHeld P1
              have hHeld := hHeld2
              clear hHeld2
              try simp only [Act.put, List.setIfInBounds_toArray, List.set_cons_zero, List.set_cons_succ]
              refine wpAnyH_take (i := 6) (oi := ⟨some 41, _, _, _, _, _⟩) (v := ?_) rfl (by kernel_rfl) (by kernel_rfl) (by kernel_rfl) (fun _ _ _ h => h) (Or.inl ⟨by rfl, ?_⟩) (by assumption) ?_
              rotate_left 1
              · intro w hSw; (try dsimp only at hSw); go_simp; try (with_reducible rfl)
              try simp only [Act.put, List.setIfInBounds_toArray, List.set_cons_zero, List.set_cons_succ]
              refine wpAnyH_ready (rs := [7]) (by kernel_rfl) (by simp) ?_
              refine AllReadyH.cons (o := ⟨some 42, _, _, _, _, _⟩) rfl (fun K hK => ?_) AllReadyH.nil
              have P3 := Lib.hid (P2.out.list hrl2)
              go_simp
              generalize (w3.alloc (.cells #[] 25)) = V3 at P3 ⊢
              refine hK.out _ _ ?_ (fun hHeld2 => ?_)
              · exact ⟨kp_cell P3.out.kp hcl hcr c0, kp_cell P3.out.kp hcl hcr c1⟩
              clear hK K hHeld P2
              have hHeld := hHeld2
              clear hHeld2
              try simp only [Act.put, List.setIfInBounds_toArray, List.set_cons_zero, List.set_cons_succ]
              refine wpAnyH_take (i := 8) (oi := ⟨some 43, _, _, _, _, _⟩) (v := ?_) rfl (by kernel_rfl) (by kernel_rfl) (by kernel_rfl) (fun _ _ _ h => h) (Or.inl ⟨by rfl, ?_⟩) (by assumption) ?_
              rotate_left 1
              · intro w hSw; (try dsimp only at hSw); go_simp; try (with_reducible rfl)
              try simp only [Act.put, List.setIfInBounds_toArray, List.set_cons_zero, List.set_cons_succ]
              have hY := P3.out.made hrl2 p q (IntKind.i64.wrap (1 + s))
              obtain ⟨x0, x1⟩ := P3.out.bx _ rfl
              obtain ⟨⟨b0, b1, b2, b3⟩, f0, f1, f2, f3⟩ := four_z x1
              have hxl := lt_of_heap x1
              refine wpAnyH_ready (rs := [10]) (by kernel_rfl) (by simp) ?_
              refine AllReadyH.cons (o := ⟨none, _, _, _, _, _⟩) rfl (fun K hK => ?_) AllReadyH.nil
              go_simp
              refine hK.out _ _ ?_ (fun hHeld2 => ?_)
              · exact ⟨kp_cell hY.kp hcl hcr c0, kp_cell hY.kp hcl hcr c1⟩
              clear hK K hHeld P3 b0 b1 b2 b3 f0 f1 f2 f3 x0 x1 hHeld2
              have hY := Lib.hid hY
              try simp only [Act.put, List.setIfInBounds_toArray, List.set_cons_zero, List.set_cons_succ]
              refine wpAnyH_done (by kernel_rfl) ?_ _
              try simp only [Act.put, List.setIfInBounds_toArray, List.set_cons_zero, List.set_cons_succ]
              go_wp2_with fail
              go_meet
              exact ⟨_, _, _, rfl, hY⟩
            refine AllReadyH.cons (o := ⟨some 42, _, _, _, _, _⟩) rfl (fun K hK => ?_) AllReadyH.nil
            have P2 := Lib.hid (P1.out.list hrl2)
            go_simp
            generalize (V1.alloc (.cells #[] 25)) = V2 at P2 ⊢
            refine hK.out _ _ ?_ (fun hHeld2 => ?_)
            · exact ⟨kp_cell P2.out.kp hcl hcr c0, kp_cell P2.out.kp hcl hcr c1⟩
            clear hK K hHeld P1
            have hHeld := hHeld2
            clear hHeld2
            try simp only [Act.put, List.setIfInBounds_toArray, List.set_cons_zero, List.set_cons_succ]
            refine wpAnyH_ready (rs := [5]) (by kernel_rfl) (by simp) ?_
            refine AllReadyH.cons (o := ⟨some 40, _, _, _, _, _⟩) rfl (fun K hK => ?_) AllReadyH.nil
            go_simp
            refine (pick_any 5 r _ _ P2.out.rd (by omega)).mono ?_
            rintro e w4 ⟨s, rfl, s0, s1', hr', hk'⟩
            have s1 := s1' (by omega)
            have P3 := Lib.hid (P2.out.keep hrl2 hr' hk')
            clear s1' hr' hk'
            go_wp2_with fail
            refine hK.out _ _ ?_ (fun hHeld2 => ?_)
            · exact ⟨kp_cell P3.out.kp hcl hcr c0, kp_cell P3.out.kp hcl hcr c1⟩
            clear hK K hHeld P2
            have hHeld := hHeld2
            clear hHeld2
            try simp only [Act.put, List.setIfInBounds_toArray, List.set_cons_zero, List.set_cons_succ]
            refine wpAnyH_take (i := 6) (oi := ⟨some 41, _, _, _, _, _⟩) (v := ?_) rfl (by kernel_rfl) (by kernel_rfl) (by kernel_rfl) (fun _ _ _ h => h) (Or.inl ⟨by rfl, ?_⟩) (by assumption) ?_
            rotate_left 1
            · intro w hSw; (try dsimp only at hSw); go_simp; try (with_reducible rfl)
            try simp only [Act.put, List.setIfInBounds_toArray, List.set_cons_zero, List.set_cons_succ]
            refine wpAnyH_take (i := 8) (oi := ⟨some 43, _, _, _, _, _⟩) (v := ?_) rfl (by kernel_rfl) (by kernel_rfl) (by kernel_rfl) (fun _ _ _ h => h) (Or.inl ⟨by rfl, ?_⟩) (by assumption) ?_
            rotate_left 1
            · intro w hSw; (try dsimp only at hSw); go_simp; try (with_reducible rfl)
            try simp only [Act.put, List.setIfInBounds_toArray, List.set_cons_zero, List.set_cons_succ]
            have hY := P3.out.made hrl2 p q (IntKind.i64.wrap (1 + s))
            obtain ⟨x0, x1⟩ := P3.out.bx _ rfl
            obtain ⟨⟨b0, b1, b2, b3⟩, f0, f1, f2, f3⟩ := four_z x1
            have hxl := lt_of_heap x1
            refine wpAnyH_ready (rs := [10]) (by kernel_rfl) (by simp) ?_
            refine AllReadyH.cons (o := ⟨none, _, _, _, _, _⟩) rfl (fun K hK => ?_) AllReadyH.nil
            go_simp
            refine hK.out _ _ ?_ (fun hHeld2 => ?_)
            · exact ⟨kp_cell hY.kp hcl hcr c0, kp_cell hY.kp hcl hcr c1⟩
            clear hK K hHeld P3 b0 b1 b2 b3 f0 f1 f2 f3 x0 x1 hHeld2
            have hY := Lib.hid hY
            try simp only [Act.put, List.setIfInBounds_toArray, List.set_cons_zero, List.set_cons_succ]
            refine wpAnyH_done (by kernel_rfl) ?_ _
            try simp only [Act.put, List.setIfInBounds_toArray, List.set_cons_zero, List.set_cons_succ]
            go_wp2_with fail
            go_meet
            exact ⟨_, _, _, rfl, hY⟩
            -- R11B
          case rest =>
            obtain ⟨xb, nb, sq, rfl, hY⟩ := hcut
            clear c0 c1
            obtain ⟨wO, hwO⟩ : ∃ W, Hid (wr = W) := ⟨_, Lib.hid rfl⟩
            rw [hwO.out] at hZ hY hrl2 hcl
            go_wp2_with fail
            go_loopw [9] (fun i wr2 => ∃ (k2 : Nat) (du : Value) (D : List Pid), k2 ≤ nc ∧ i = .int .i64 k2 ∧ D.length ≤ k2 ∧ Hid (YS wO wr2 r (n + 20 + j * 12 + 1 + k2) xb p q sq du du D)) (fun i _ => nc - (intOf i).toNat)
            case atStart => exact ⟨0, _, [], Nat.zero_le _, rfl, Nat.zero_le _, hY⟩
            case round =>
              clear hY
              obtain ⟨k2, du, D, hk2, rfl, hD, hY⟩ := hrel
              have hrl3 : r < wO.heap.size := hrl2
              by_cases hlt2 : k2 < nc
              · by_cases hkj : k2 = j
                · subst hkj
                  go_wp2_with fail
                  refine ⟨⟨k2 + 1, du, D, by omega, by go_num, by omega, Lib.hid ⟨hY.out.rd.more (by omega), hY.out.kp, hY.out.row, hY.out.box, hY.out.xl⟩⟩, ?_⟩
                  simp [intOf]; omega
                · have hne : ((k2 : Int) != (j : Int)) = true := by simp; omega
                  go_wp2_with fail
                  refine (pick_any (nc + 1) r _ _ hY.out.rd (by omega)).mono ?_
                  rintro e w3 ⟨x, rfl, x0, x1', hr3, hk3⟩
                  have Y3 := Lib.hid (hY.out.keep hrl3 hr3 hk3)
                  clear hY hr3 hk3 x1'
                  by_cases hx : x = 0
                  · subst hx
                    have hk2C : k2 < C.length := by rw [hnc.out]; exact hlt2
                    have Z3 := hZ.out.of hrl Y3.out
                    obtain ⟨e0, e1⟩ := Z3.ids.cell k2 hk2C
                    obtain ⟨d2, hd2⟩ : ∃ d, Hid (C.getD k2 nop = d) := ⟨_, Lib.hid rfl⟩
                    rw [hd2.out] at e0 e1
                    obtain ⟨p2, q2⟩ := d2
                    dsimp only at e0 e1
                    have hcl3 := Z3.ids.lt
                    clear Z3
                    have Yd := Lib.hid (Y3.out.low hrl3 (Below.drew (Below.refl _ _)))
                    obtain ⟨dg, dc, rfl, _, _, _, _⟩ := Y3.out.row.shape
                    obtain ⟨b0, b1, b2, b3, _⟩ := four_b Y3.out.box
                    have hxl := lt_of_heap Y3.out.box
                    have hY3s := Y3.out.kp.size
                    have rr := Yd.out.row.1
                    obtain ⟨D5, hD5⟩ : ∃ L, Hid (D ++ [(p2, q2)] = L) := ⟨_, Lib.hid rfl⟩
                    have hap := Lib.hid (fun (o : Obj) (w' : World) (v' : Value) (h1 : w'.ownsRow wO.heap.size 25 2 v' (D.length + 1) (flatP D ++ [.int .i64 p2, .int .i64 q2])) (h2 : (w3.drew.alloc o).grownBy w' _) (h3 : v' ≠ .slice none 0 0) => by
                      have := Yd.out.app (o := o) (w' := w') (v' := v') (x := p2) (y := q2) hrl3 h1 h2 h3
                      rw [hD5.out] at this; exact this)
                    obtain ⟨nd, hnd⟩ : ∃ x, Hid (D.length = x) := ⟨_, Lib.hid rfl⟩
                    have hl4 := Lib.hid (show D5.length = nd + 1 by rw [← hD5.out, List.length_append, hnd.out]; rfl)
                    rw [hnd.out] at b3 rr hap hD
                    have rr := Lib.hid rr
                    clear Yd Y3
                    go_wp2_with fail
                    go_region_law (first | (rw [if_pos (by rfl)]; refine wp_append_own _ _ _ 28 rfl wO.heap.size 25 i0 (.agg #[.int .i64 0, .int .i64 0]) 2 16 Tryd.underlying28 hi hz0 hz1 hz2 rfl (by decide) (.slice (some ⟨dg, 0, none⟩) nd dc) nd (flatP D) rfl (rr.out.alloc (.cells #[.int .i64 p2, .int .i64 q2] 25)) ⟨w3.heap.size, 0, none⟩ 1 1 [.int .i64 p2, .int .i64 q2] rfl rfl (two_src _ _ _ _ _ (by simp)) (two_one _ _) (by unfold maxLen; omega) (by omega) (by simp; omega) ?_; intro v4 w4 hown4 hgrow4 hnil4; have X4 := Lib.hid (hap.out _ w4 _ hown4 hgrow4 (fun e => absurd (hnil4.1 e).2 (by decide))); obtain ⟨g4, c4, rfl, _, _, _, _⟩ := X4.out.row.shape; obtain ⟨_, _, _, m4, f4⟩ := four_b X4.out.box; have hx4 := lt_of_heap X4.out.box; have X5 := Lib.hid (X4.out.store hrl3); clear hown4 hgrow4 hnil4 hap rr X4 b0 b1 b2 b3 e0 e1))
                    all_goals
                      go_wp2_with fail
                      refine ⟨⟨k2 + 1, _, D5, by omega, by go_num, by have := hl4.out; omega, Lib.hid ⟨X5.out.rd.more (by omega), X5.out.kp, X5.out.row, X5.out.box, X5.out.xl⟩⟩, ?_⟩
                      simp [intOf]; omega
                  · have hx' : (x == 0) = false := by simpa using hx
                    go_wp2_with fail
                    refine ⟨⟨k2 + 1, du, D, by omega, by go_num, by omega, Lib.hid ⟨Y3.out.rd.more (by omega), Y3.out.kp, Y3.out.row, Y3.out.box, Y3.out.xl⟩⟩, ?_⟩
                    simp [intOf]; omega
              · have hge2 : ¬ ((k2 : Int) < nc) := by omega
                go_wp2_with fail
                refine (pick_any 10 r _ _ hY.out.rd (by omega)).mono ?_
                rintro e w3 ⟨x, rfl, x0, x1', hr3, hk3⟩
                have Y3 := Lib.hid (hY.out.keep hrl3 hr3 hk3)
                clear hY hr3 hk3 x1'
                obtain ⟨dg, dc, rfl, _, hdg, _, _⟩ := Y3.out.row.shape
                obtain ⟨b0, b1, b2, b3, b4⟩ := four_b Y3.out.box
                have hxl := lt_of_heap Y3.out.box
                obtain ⟨nd, hnd⟩ : ∃ x, Hid (D.length = x) := ⟨_, Lib.hid rfl⟩
                by_cases hx : x = 0
                · subst hx
                  have sp := sput_at dg 0 dc D 4 1 w3 hdg (by omega) (fun i hi => by
                    obtain ⟨bb, _, hbO⟩ := Y3.out.row.own (by omega)
                    obtain ⟨c, e, _⟩ := hbO.shape
                    injection e with e1 _ _; injection e1 with e1; injection e1 with e1 _ _
                    rw [Nat.zero_add, e1]; exact hbO.cell i hi)
                  rw [hnd.out] at sp b3 hD
                  go_wp2_with fail
                  refine sp.mono ?_
                  rintro e w4 ⟨b', u, hb', rfl, hO4, B⟩
                  have hl := (len_putP D (4, 1)).2
                  have E4 := Lib.hid (Y3.out.redo hrl3 hb' B hO4)
                  obtain ⟨uc, rfl, _⟩ := hO4.shape
                  have Y4 := Y3.out.low hrl3 B
                  obtain ⟨b0, b1, b2, b3, b4⟩ := four_b Y4.box
                  have hxl := lt_of_heap Y4.box
                  clear sp B hO4 Y4 Y3
                  have Zr := (E4.out.zs hZ.out hrl).nr.row
                  rw [hj.out] at Zr
                  have Zr := Lib.hid Zr
                  have hzs := (E4.out.zs hZ.out hrl).kp.size
                  obtain ⟨L5, hL5⟩ : ∃ l, Hid (L ++ [((⟨(p, q), sq, putP D (4, 1)⟩ : Nd), .slice (some ⟨b', 0, none⟩) (putP D (4, 1)).length uc)] = l) := ⟨_, Lib.hid rfl⟩
                  have hL5l := Lib.hid (show L5.length = j + 1 by rw [← hL5.out, List.length_append, hj.out]; rfl)
                  go_wp2_with (at_builtin; refine wpList_append_own_at _ rfl _ _ 23 rfl w.heap.size 32 j0 (.agg #[.int .i64 0, .int .i64 0, .int .i64 0, .slice none 0 0]) 4 48 Tryd.underlying23 hj0 jz0 jz1 jz2 rfl (by decide) _ j (flatD L) rfl (Zr.out.alloc _) ⟨w4.heap.size, 0, none⟩ 1 1 [.int .i64 p, .int .i64 q, .int .i64 sq, .slice (some ⟨b', 0, none⟩) (putP D (4, 1)).length uc] rfl rfl ?fc1 ?fc2 ?fc3 ?fc4 ?fc5 ?_)
                  first | (case fc1 => exact four_srcD _ _ _ _ _ _ _ (by simp)) | skip
                  case fc2 => first | exact four_oneD _ _ _ _ _ _ | (simp; done) | (refine ⟨rfl, rfl, rfl, rfl⟩)
                  case fc3 => unfold maxLen; omega
                  case fc4 => omega
                  case fc5 => first | omega | (simp; omega) | (simp at hzs ⊢; omega)
                  intro v' w5 hown' hgrow hnil hat
                  have Z5 := E4.out.put hZ.out hrl (by rw [hj.out]; exact hown') hgrow (fun e => hnil e) (hat.imp (fun h => h) (fun h => by simpa using h))
                  rw [hL5.out] at Z5
                  have Z5 := Lib.hid Z5
                  clear hown' hgrow hnil hat E4 Zr
                  go_wp2_with fail
                  refine ⟨⟨L5, by have := hL5l.out; omega, by rw [hL5l.out]; go_num, Lib.hid (Z5.out.keep hrl (Z5.out.rd.more (by have := hL5l.out; omega)) (Keep.refl _ _ _))⟩, ?_⟩
                  simp [intOf]; omega
                · have hx' : (x == 0) = false := by simpa using hx
                  have E4 := Lib.hid (Y3.out.es (by omega))
                  clear Y3
                  have Zr := (E4.out.zs hZ.out hrl).nr.row
                  rw [hj.out] at Zr
                  have Zr := Lib.hid Zr
                  have hzs := (E4.out.zs hZ.out hrl).kp.size
                  obtain ⟨L5, hL5⟩ : ∃ l, Hid (L ++ [((⟨(p, q), sq, D⟩ : Nd), .slice (some ⟨dg, 0, none⟩) D.length dc)] = l) := ⟨_, Lib.hid rfl⟩
                  have hL5l := Lib.hid (show L5.length = j + 1 by rw [← hL5.out, List.length_append, hj.out]; rfl)
                  go_wp2_with (at_builtin; refine wpList_append_own_at _ rfl _ _ 23 rfl w.heap.size 32 j0 (.agg #[.int .i64 0, .int .i64 0, .int .i64 0, .slice none 0 0]) 4 48 Tryd.underlying23 hj0 jz0 jz1 jz2 rfl (by decide) _ j (flatD L) rfl (Zr.out.alloc _) ⟨w3.heap.size, 0, none⟩ 1 1 [.int .i64 p, .int .i64 q, .int .i64 sq, .slice (some ⟨dg, 0, none⟩) D.length dc] rfl rfl ?ec1 ?ec2 ?ec3 ?ec4 ?ec5 ?_)
                  first | (case ec1 => exact four_srcD _ _ _ _ _ _ _ (by simp)) | skip
                  case ec2 => first | exact four_oneD _ _ _ _ _ _ | (simp; done) | (refine ⟨rfl, rfl, rfl, rfl⟩)
                  case ec3 => unfold maxLen; omega
                  case ec4 => omega
                  case ec5 => first | omega | (simp; omega) | (simp at hzs ⊢; omega)
                  intro v' w5 hown' hgrow hnil hat
                  have Z5 := E4.out.put hZ.out hrl (by rw [hj.out]; exact hown') hgrow (fun e => hnil e) (hat.imp (fun h => h) (fun h => by simpa using h))
                  rw [hL5.out] at Z5
                  have Z5 := Lib.hid Z5
                  clear hown' hgrow hnil hat E4 Zr
                  go_wp2_with fail
                  refine ⟨⟨L5, by have := hL5l.out; omega, by rw [hL5l.out]; go_num, Lib.hid (Z5.out.keep hrl (Z5.out.rd.more (by have := hL5l.out; omega)) (Keep.refl _ _ _))⟩, ?_⟩
                  simp [intOf]; omega
        · have hge3 : ¬ ((j : Int) < nc) := by omega
          have hNd := hZ.out.nr.ndo (by rw [hj.out]; omega)
          have hNl : (L.map Prod.fst).length = j := by rw [List.length_map]; exact hj.out
          generalize L.map Prod.fst = N at hNd hNl
          have hNl := Lib.hid hNl
          have hrd := Lib.hid hZ.out.rd
          have hK := Lib.hid hZ.out.kp
          have hNd := Lib.hid hNd
          clear hZ
          go_wp2_with fail
          refine (pick_any 30 r _ _ hrd.out (by omega)).mono ?_
          rintro e w3 ⟨x, rfl, x0, x1', hr3, hk3⟩
          have K3 := Lib.hid (hK.out.trans (hk3.mono hZl))
          have N3 := Lib.hid (hNd.out.keep hk3 hrl)
          have hr3 := Lib.hid hr3
          have hs3 := hk3.size
          clear hK hNd hrd hk3 x1'
          by_cases hx : x = 0
          · subst hx
            obtain ⟨g, cap, rfl, hg0, hgl, hgc, _, _⟩ := N3.out.at_
            rw [hNl.out] at hgc N3 ⊢
            go_wp2_with fail
            refine (pick_any j r _ _ hr3.out (by omega)).mono ?_
            rintro e w4 ⟨y, rfl, y0, y1', hr4, hk4⟩
            have y1 := y1' (by omega)
            obtain ⟨kk, rfl⟩ := Int.eq_ofNat_of_zero_le y0
            have hkk : kk < j := by omega
            have N4 := N3.out.keep hk4 hrl
            have K4 := Lib.hid (K3.out.trans (hk4.mono (by omega)))
            have hs4 := hk4.size
            obtain ⟨g', cap', e, _, hgl4, _, hfr, hcs⟩ := N4.at_
            injection e with e1 e2 e3
            injection e1 with e1
            injection e1 with e1
            subst e1
            clear e2 e3
            obtain ⟨c0, c1, _, u0, c3⟩ := hcs kk (by rw [hNl.out]; exact hkk)
            have f3 := hfr (kk * 4 + 3)
            obtain ⟨d, hd⟩ : ∃ d, Hid ((N.getD kk nd0).id = d) := ⟨_, Lib.hid rfl⟩
            rw [hd.out] at c0 c1
            obtain ⟨p, q⟩ := d
            dsimp only at c0 c1
            have hr4 := Lib.hid hr4
            have N4 := Lib.hid N4
            clear hcs hfr hk4 N3 K3 hr3 y1' y0
            have hR := row_new w4 w4.heap.size (Nat.le_refl _)
            have hR := Lib.hid hR
            have hal : (w4.alloc (.cells #[] 25)).heap.size = w4.heap.size + 1 := by simp
            have hal := Lib.hid hal
            go_wp2_with (at_builtin; refine wpList_append_own_at _ rfl _ _ 28 rfl w4.heap.size 25 i0 (.agg #[.int .i64 0, .int .i64 0]) 2 16 Tryd.underlying28 hi hz0 hz1 hz2 rfl (by decide) _ _ _ rfl (hR.out.1.alloc _) ⟨w4.heap.size + 1, 0, none⟩ 1 1 [.int .i64 p, .int .i64 q] rfl rfl ?gc1 ?gc2 ?gc3 ?gc4 ?gc5 ?_)
            first | (case gc1 => exact two_cells _ _ _ _ _ (by simp)) | skip
            case gc2 => first | exact ⟨rfl, rfl⟩ | exact two_one _ _
            case gc3 => unfold maxLen; simp
            case gc4 => simp
            case gc5 => simp; omega
            intro v5 w5 hown' hgrow hnil hat
            have hRu : Row ((w4.alloc (.cells #[] 25)).alloc (.cells #[.int .i64 p, .int .i64 q] 25)) w4.heap.size (.slice (some ⟨w4.heap.size, 0, none⟩) 0 0) [] := hR.out.up ((Below.refl _ _).alloc (Nat.le_refl _) _)
            have B5 := ((((Below.refl w4.heap.size w4).alloc (Nat.le_refl _) (.cells #[] 25)).alloc (by simp) (.cells #[.int .i64 p, .int .i64 q] 25))).trans (grown_below hRu hgrow (by simp; omega))
            have R5 := hRu.put (x := p) (y := q) (by simpa using hown') (fun e => hnil e)
            obtain ⟨bq, hbq, hO5⟩ := R5.own (by simp)
            obtain ⟨q5, rfl, _⟩ := hO5.shape
            have N5 := N4.out.up B5
            have N6 := N5.setd (k := kk) (by rw [hNl.out]; exact hkk) (by omega) (fun e => by simp [Value.ownBlock] at e; omega) hO5 rfl
            have bs := (Below.refl w.heap.size w5).setCell (p := ⟨g, kk * 4 + 3, none⟩) hg0 (.slice (some ⟨bq, 0, none⟩) ([] ++ [(p, q)]).length q5)
            have K6 := Lib.hid ((K4.out.trans (Keep.of_below (B5.mono (by omega)))).trans (Keep.of_below bs))
            have hr6 := Lib.hid ((hr4.out.kept (B5.mono (by omega))).kept (bs.mono (by omega)))
            have c5 := (World.cell?_of_block (a := ⟨g, kk * 4 + 3, none⟩) (B5.block g hgl4)).trans c3
            have f5 := (World.frozen?_of_block (a := ⟨g, kk * 4 + 3, none⟩) (B5.block g hgl4)).trans f3
            have hg5 := Nat.lt_of_lt_of_le hgl4 B5.size
            have hNs := Lib.hid (show (N.set kk ⟨(N.getD kk nd0).id, (N.getD kk nd0).seq, [] ++ [(p, q)]⟩).length = j by rw [List.length_set]; exact hNl.out)
            have N6 := Lib.hid N6
            clear hown' hgrow hnil hat hRu B5 R5 hO5 N5 bs hR N4 K4 hr4 c0 c1 c3 f3
            go_wp2_with fail
            go_ret
            exact ⟨_, _, rfl, N6.out, by rw [hNs.out]; omega, by rw [hNs.out]; omega, hr6.out.more (by omega), K6.out⟩
          · have hx' : (x == 0) = false := by simpa using hx
            go_wp2_with fail
            go_ret
            exact ⟨_, N, rfl, N3.out, by rw [hNl.out]; omega, by rw [hNl.out]; omega, hr3.out.more (by omega), K3.out⟩
end Go.Proofs.YtbbnchodchgioaaDoor
