/- Texts laid together. -/
import Derived.Test.YtdikcenhakfheaaGreatDoorC14
import Derived.Test.YtdikcenhakfheaaGreatDoorC22
import Derived.Test.YtdikcenhakfheaaGreatDoorC17
import Derived.Test.YtdikcenhakfheaaGreatDoorC23
import Derived.Test.YtdikcenhakfheaaGreatDoorC24
import Derived.Test.YtdikcenhakfheaaGreatDoorC25
import Derived.Deep.DeepCutAuto
import Derived.Deep.CutBlock
/- The walk of FnExactPropose. -/
namespace Go.Proofs.YtdikcenhakfheaaGreatDoor
open Go.RowKit
set_option linter.unusedVariables false

theorem LEs.upP {w w' : World} {B : Nat} {a : Option Addr} {len cap : Nat} (h : LEs w a len cap) (hb : Below B w w') (hB : w.heap.size ≤ B) : LEs w' a len cap := by
  obtain ⟨h1, h2, h3⟩ := h
  refine ⟨h1, h2, ?_⟩
  rcases h3 with h3 | ⟨b, off, rfl, hl, hc⟩
  · exact .inl h3
  · refine .inr ⟨b, off, rfl, Nat.lt_of_lt_of_le hl hb.size, fun i hi => ?_⟩
    obtain ⟨x, ua, un, uc, e0, e1, e2, e3, e4, e5, e6, e7, e8, e9, e10⟩ := hc i hi
    have hcc : ∀ o, w'.cell? ⟨b, o, none⟩ = w.cell? ⟨b, o, none⟩ := fun o => hb.cell (p := ⟨b, o, none⟩) (Nat.lt_of_lt_of_le hl hB)
    exact ⟨x, ua, un, uc, by rw [hcc]; exact e0, by rw [hcc]; exact e1, by rw [hcc]; exact e2, by rw [hcc]; exact e3, by rw [hcc]; exact e4, by rw [hcc]; exact e5, by rw [hcc]; exact e6, by rw [hcc]; exact e7, by rw [hcc]; exact e8, e9, e10.imp id fun ⟨C, hC⟩ => ⟨C, hC.up hb hB⟩⟩
theorem propR_deps {E : List En} {p k key v : Int} : ∀ i, i < (propR E p k key v).1.length → ((propR E p k key v).1.getD i en0).deps.length ≤ 12 := by
  intro i hi
  cases h : (propR E p k key v).2.2 with
  | true =>
    obtain ⟨h1, h2, _, h4, h5⟩ := prop_is h
    rw [h2] at hi ⊢
    have hv := putE_valid h1 h4 h5
    exact (srt_of (enB_of ((log_of hv).2.1 _ (enD_mem hi))).2.2.1).1
  | false =>
    exfalso
    have e : (propR E p k key v).1 = [] := by
      unfold propR PpR at h ⊢
      split
      · split
        · rename_i a b; rw [if_pos a, if_pos b] at h; cases h
        · rfl
      · rfl
    rw [e] at hi; exact absurd hi (by simp)

set_option maxRecDepth 100000 in
set_option maxHeartbeats 16000000 in
theorem exPropose_any (a : Option Addr) (len cap : Nat) (p k key v : Int) (w : World) (h : LEs w a len cap) (hT : TabIn w) :
    Calls Tryz.prog 6 #[.slice a len cap, .int .i64 p, .agg #[.int .i64 k, .int .i64 key, .int .i64 v]] w fun e w' => e = .returned (.bool true) ∧ Below w.heap.size w w' := by
  have D0 := (Below.refl w.heap.size w).alloc (Nat.le_refl _) (.cells #[.int .i64 k, .int .i64 key, .int .i64 v] 47)
  have sz := szEs_any a len cap _ (h.upP D0 (Nat.le_refl _))
  have hI := Lib.hid (heap_alloc_new w (.cells #[.int .i64 k, .int .i64 key, .int .i64 v] 47))
  have hT := Lib.hid (TabIn.up hT D0 (Nat.le_refl _))
  have D0 := Lib.hid D0
  clear h
  go_enter Tryz.func6, Tryz.ntmps6
  go_wp2_with fail
  refine sz.mono ?_
  rintro e w1 ⟨⟨z, rfl, hz⟩, B⟩
  have D1 := Lib.hid (bstep D0.out B)
  have hI := Lib.hid (bblk B (by simp) hI.out)
  replace hT := Lib.hid (TabIn.up hT.out B (Nat.le_refl _))
  rcases hz with rfl | ⟨hz0, E, hEl, hE⟩
  · clear B sz D0
    go_wp2_with fail
    go_ret
    exact ⟨rfl, D1.out⟩
  · have hz1 : ¬ z < 0 := by omega
    have hE := Lib.hid (hE.up B (Nat.le_refl _))
    obtain ⟨⟨N, Y, q⟩, hR⟩ : ∃ r, propR E p k key v = r := ⟨_, rfl⟩
    have hN12 : N.length ≤ 12 := by have := propR_len E p k key v; rw [hR] at this; exact this
    have hNd : Hid (∀ i, i < N.length → (N.getD i en0).deps.length ≤ 12) := Lib.hid (by have := propR_deps (E := E) (p := p) (k := k) (key := key) (v := v); rw [hR] at this; exact this)
    have te := fun W (hb : Below w1.heap.size w1 W) => toEs_any _ E W (hE.out.up hb (Nat.le_refl _))
    have tc := fun W => toCmd_any k key v W
    have sp := fun (u : Value) (W : World) (H : Ens W u E) => show Calls Tryz.prog 20 #[u, .int .i64 p, .agg #[.int .i64 k, .int .i64 key, .int .i64 v]] W (RsP N Y q W) from (spropz_any u E p k key v W H).mono fun e w' h => by rw [hR] at h; exact rs_m h
    have ir := fun (u : Value) (W : World) (hT : TabIn W) (H : Ens W u E) => show Calls Tryz.prog 23 #[u, .int .i64 p, .agg #[.int .i64 k, .int .i64 key, .int .i64 v]] W (RsP N Y q W) from (iprop_any u E p k key v W hT H).mono fun e w' h => by rw [hR] at h; exact rs_p h
    have ip := fun (u : Value) (W : World) (hT : TabIn W) (H : Ens W u E) => iprop_any u E p k key v W hT H
    unfold EnsCPost at te
    unfold PrP at ip
    rw [hR] at ip
    dsimp only at ip
    unfold env at ip
    obtain ⟨ib, hib⟩ : ∃ c, Hid (w.heap.size = c) := ⟨_, Lib.hid rfl⟩
    rw [hib.out] at hI ⊢
    have hil := lt_of_heap hI.out
    obtain ⟨i0, i1, i2, _, _, _⟩ := blk3 hI.out
    have E0 := Lib.hid (Below.refl w1.heap.size w1)
    clear B sz D0 hE hR hEl
    go_upto_region 5 with fail
    go_cut [8, 9, 10] from 26 to 35 (fun s8 s9 s10 wx => Hid (PrQ N Y q w1 s8 s9 s10 wx))
    case first =>
      clear ir ip
      have F0 := Lib.hid (FE.start (w0 := w1))
      refine wp_region_held_drew (S := fun w' => w'.cell? ⟨ib, 0, none⟩ = some (.int .i64 k) ∧ w'.cell? ⟨ib, 1, none⟩ = some (.int .i64 key) ∧ w'.cell? ⟨ib, 2, none⟩ = some (.int .i64 v)) (by kernel_rfl) ⟨i0, i1, i2⟩ (fun hHeld => ?_)
      generalize w1.drew = V0 at F0 hHeld ⊢
      refine wpAnyH_take (i := 0) (oi := ⟨some 27, _, _, _, _, _⟩) (v := ?_) rfl (by kernel_rfl) (by kernel_rfl) (by kernel_rfl) (fun _ _ _ h => h) (Or.inl ⟨by rfl, ?_⟩) (by assumption) ?_
      rotate_left 1
      · intro w hSw; (try dsimp only at hSw); go_simp; try (with_reducible rfl)
      try simp only [Act.put, List.setIfInBounds_toArray, List.set_cons_zero, List.set_cons_succ]
      refine wpAnyH_take (i := 2) (oi := ⟨some 29, _, _, _, _, _⟩) (v := ?_) rfl (by kernel_rfl) (by kernel_rfl) (by kernel_rfl) (fun _ _ _ h => h) (Or.inl ⟨by rfl, ?_⟩) (by assumption) ?_
      rotate_left 1
      · intro w hSw; (try dsimp only at hSw); go_simp; try (with_reducible rfl)
      try simp only [Act.put, List.setIfInBounds_toArray, List.set_cons_zero, List.set_cons_succ]
      refine wpAnyH_take (i := 3) (oi := ⟨some 30, _, _, _, _, _⟩) (v := ?_) rfl (by kernel_rfl) (by kernel_rfl) (by kernel_rfl) (fun _ _ _ h => h) (Or.inl ⟨by rfl, ?_⟩) (by assumption) ?_
      rotate_left 1
      · intro w hSw; (try dsimp only at hSw); go_simp; try (with_reducible rfl)
      try simp only [Act.put, List.setIfInBounds_toArray, List.set_cons_zero, List.set_cons_succ]
      refine wpAnyH_ready (rs := [1, 10]) (by kernel_rfl) (by simp) ?_
      refine AllReadyH.cons (o := ⟨some 28, _, _, _, _, _⟩) rfl (fun K hK => ?_) ?_
      · go_simp
        (with_reducible refine (te _ (bstep E0.out F0.out.kp)).mono ?_)
        rintro e w2x ⟨u2, rfl, O2, hb⟩
        have O2 := Lib.hid O2
        have F1 := Lib.hid (F0.out.low hb)
        go_wp2_with fail
        refine hK.out _ _ ?_ (fun hHeld2 => ?_)
        · exact ⟨cell_later hb hHeld.1, cell_later hb hHeld.2.1, cell_later hb hHeld.2.2⟩
        clear hK K hHeld hb
        have hHeld := hHeld2
        clear hHeld2
        try simp only [Act.put, List.setIfInBounds_toArray, List.set_cons_zero, List.set_cons_succ]
        refine wpAnyH_ready (rs := [4, 10]) (by kernel_rfl) (by simp) ?_
        refine AllReadyH.cons (o := ⟨some 31, _, _, _, _, _⟩) rfl (fun K hK => ?_) ?_
        · go_simp
          (with_reducible refine (tc _).mono ?_)
          rintro e w3x ⟨rfl, hb⟩
          replace O2 := Lib.hid (O2.out.up hb)
          have F2 := Lib.hid (F1.out.low hb)
          go_wp2_with fail
          refine hK.out _ _ ?_ (fun hHeld2 => ?_)
          · exact ⟨cell_later hb hHeld.1, cell_later hb hHeld.2.1, cell_later hb hHeld.2.2⟩
          clear hK K hHeld hb
          have hHeld := hHeld2
          clear hHeld2
          try simp only [Act.put, List.setIfInBounds_toArray, List.set_cons_zero, List.set_cons_succ]
          refine wpAnyH_ready (rs := [5, 10]) (by kernel_rfl) (by simp) ?_
          refine AllReadyH.cons (o := ⟨some 32, _, _, _, _, _⟩) rfl (fun K hK => ?_) ?_
          · go_simp
            have hbx4 := fun b e => lt_of_heap (F2.out.bx b e).2
            (with_reducible refine (sp _ _ O2.out.read).mono ?_)
            rintro e w4x ⟨g4, c4, a4, m4, d4, rfl, R4, hb⟩
            unfold env
            have R4 := Lib.hid R4
            have F3 := Lib.hid (F2.out.low hb)
            clear O2 
            go_wp2_with fail
            refine hK.out _ _ ?_ (fun hHeld2 => ?_)
            · exact ⟨cell_later hb hHeld.1, cell_later hb hHeld.2.1, cell_later hb hHeld.2.2⟩
            clear hK K hHeld hb
            have hHeld := hHeld2
            clear hHeld2
            try simp only [Act.put, List.setIfInBounds_toArray, List.set_cons_zero, List.set_cons_succ]
            refine wpAnyH_take (i := 6) (oi := ⟨some 26, _, _, _, _, _⟩) (v := ?_) rfl (by kernel_rfl) (by kernel_rfl) (by kernel_rfl) (fun _ _ _ h => h) (Or.inl ⟨by rfl, ?_⟩) (by assumption) ?_
            rotate_left 1
            · intro w hSw; (try dsimp only at hSw); go_simp; try (with_reducible rfl)
            try simp only [Act.put, List.setIfInBounds_toArray, List.set_cons_zero, List.set_cons_succ]
            refine wpAnyH_take (i := 7) (oi := ⟨some 33, _, _, _, _, _⟩) (v := ?_) rfl (by kernel_rfl) (by kernel_rfl) (by kernel_rfl) (fun _ _ _ h => h) (Or.inl ⟨by rfl, ?_⟩) (by assumption) ?_
            rotate_left 1
            · intro w hSw; (try dsimp only at hSw); go_simp; try (with_reducible rfl)
            try simp only [Act.put, List.setIfInBounds_toArray, List.set_cons_zero, List.set_cons_succ]
            refine wpAnyH_take (i := 8) (oi := ⟨some 34, _, _, _, _, _⟩) (v := ?_) rfl (by kernel_rfl) (by kernel_rfl) (by kernel_rfl) (fun _ _ _ h => h) (Or.inl ⟨by rfl, ?_⟩) (by assumption) ?_
            rotate_left 1
            · intro w hSw; (try dsimp only at hSw); go_simp; try (with_reducible rfl)
            try simp only [Act.put, List.setIfInBounds_toArray, List.set_cons_zero, List.set_cons_succ]
            refine wpAnyH_take (i := 9) (oi := ⟨some 35, _, _, _, _, _⟩) (v := ?_) rfl (by kernel_rfl) (by kernel_rfl) (by kernel_rfl) (fun _ _ _ h => h) (Or.inl ⟨by rfl, ?_⟩) (by assumption) ?_
            rotate_left 1
            · intro w hSw; (try dsimp only at hSw); go_simp; try (with_reducible rfl)
            try simp only [Act.put, List.setIfInBounds_toArray, List.set_cons_zero, List.set_cons_succ]
            refine wpAnyH_ready (rs := [10]) (by kernel_rfl) (by simp) ?_
            refine AllReadyH.cons (o := ⟨some 9, _, _, _, _, _⟩) rfl (fun K hK => ?_) AllReadyH.nil
            have F4 := Lib.hid F3.out.box
            have BA := (Below.refl w4x.heap.size w4x).alloc (Nat.le_refl _) (.cells #[.int .i64 0, .int .i64 0, .int .i64 0, .int .i64 0, .int .i64 0, .int .i64 0, .int .i64 0, .int .i64 0, .slice none 0 0] 30)
            replace R4 := Lib.hid (R4.out.up BA)
            go_simp
            generalize (w4x.alloc (.cells #[.int .i64 0, .int .i64 0, .int .i64 0, .int .i64 0, .int .i64 0, .int .i64 0, .int .i64 0, .int .i64 0, .slice none 0 0] 30)) = V4 at F4 BA R4 ⊢
            refine hK.out _ _ ?_ (fun hHeld2 => ?_)
            · exact ⟨cell_later BA hHeld.1, cell_later BA hHeld.2.1, cell_later BA hHeld.2.2⟩
            clear hK K hHeld BA
            have hHeld := hHeld2
            clear hHeld2
            try simp only [Act.put, List.setIfInBounds_toArray, List.set_cons_zero, List.set_cons_succ]
            obtain ⟨g0, g1⟩ := F4.out.bx _ rfl
            obtain ⟨⟨n0, n1, n2, n3, n4, n5, n6, n7, n8⟩, ⟨m0, m1, m2, m3, m4, m5, m6, m7, m8⟩, hxl⟩ := nine_all g1
            have hY := F4.out.doneP (q := q) R4.out (by intro h; have := h.2; omega)
            have hYB : Below w1.heap.size w1 _ := (by obtain ⟨_, _, _, _, _, _, _, _, _, _, _, _, _, h⟩ := hY; exact h)
            have hY := Lib.hid hY
            have hYB := Lib.hid hYB
            clear R4 hbx4
            refine wpAnyH_take (i := 11) (oi := ⟨some 8, _, _, _, _, _⟩) (v := ?_) rfl (by kernel_rfl) (by kernel_rfl) (by kernel_rfl) (fun _ _ _ h => h) (Or.inl ⟨by rfl, ?_⟩) (by assumption) ?_
            rotate_left 1
            · intro w hSw; (try dsimp only at hSw); go_simp; try (with_reducible rfl)
            try simp only [Act.put, List.setIfInBounds_toArray, List.set_cons_zero, List.set_cons_succ]
            refine wpAnyH_ready (rs := [12]) (by kernel_rfl) (by simp) ?_
            refine AllReadyH.cons (o := ⟨none, _, _, _, _, _⟩) rfl (fun K hK => ?_) AllReadyH.nil
            go_simp
            refine hK.out _ _ ?_ (fun hHeld2 => ?_)
            · exact ⟨cell_later hYB.out i0, cell_later hYB.out i1, cell_later hYB.out i2⟩
            clear hK K hHeld F4 n0 n1 n2 n3 n4 n5 n6 n7 n8 m0 m1 m2 m3 m4 m5 m6 m7 m8 g0 g1
            have hHeld := hHeld2
            clear hHeld2
            try simp only [Act.put, List.setIfInBounds_toArray, List.set_cons_zero, List.set_cons_succ]
            refine wpAnyH_take (i := 13) (oi := ⟨some 10, _, _, _, _, _⟩) (v := ?_) rfl (by kernel_rfl) (by kernel_rfl) (by kernel_rfl) (fun _ _ _ h => h) (Or.inl ⟨by rfl, ?_⟩) (by assumption) ?_
            rotate_left 1
            · intro w hSw; (try dsimp only at hSw); go_simp; try (with_reducible rfl)
            try simp only [Act.put, List.setIfInBounds_toArray, List.set_cons_zero, List.set_cons_succ]
            refine wpAnyH_done (by kernel_rfl) ?_ _
            try simp only [Act.put, List.setIfInBounds_toArray, List.set_cons_zero, List.set_cons_succ]
            go_wp2_with fail
            go_meet
            exact hY
          refine AllReadyH.cons (o := ⟨some 9, _, _, _, _, _⟩) rfl (fun K hK => ?_) AllReadyH.nil
          have F3 := Lib.hid F2.out.box
          have BA := (Below.refl w3x.heap.size w3x).alloc (Nat.le_refl _) (.cells #[.int .i64 0, .int .i64 0, .int .i64 0, .int .i64 0, .int .i64 0, .int .i64 0, .int .i64 0, .int .i64 0, .slice none 0 0] 30)
          replace O2 := Lib.hid (O2.out.up BA)
          go_simp
          generalize (w3x.alloc (.cells #[.int .i64 0, .int .i64 0, .int .i64 0, .int .i64 0, .int .i64 0, .int .i64 0, .int .i64 0, .int .i64 0, .slice none 0 0] 30)) = V3 at F3 BA O2 ⊢
          refine hK.out _ _ ?_ (fun hHeld2 => ?_)
          · exact ⟨cell_later BA hHeld.1, cell_later BA hHeld.2.1, cell_later BA hHeld.2.2⟩
          clear hK K hHeld BA
          have hHeld := hHeld2
          clear hHeld2
          try simp only [Act.put, List.setIfInBounds_toArray, List.set_cons_zero, List.set_cons_succ]
          refine wpAnyH_ready (rs := [5]) (by kernel_rfl) (by simp) ?_
          refine AllReadyH.cons (o := ⟨some 32, _, _, _, _, _⟩) rfl (fun K hK => ?_) AllReadyH.nil
          go_simp
          have hbx4 := fun b e => lt_of_heap (F3.out.bx b e).2
          (with_reducible refine (sp _ _ O2.out.read).mono ?_)
          rintro e w4x ⟨g4, c4, a4, m4, d4, rfl, R4, hb⟩
          unfold env
          have R4 := Lib.hid R4
          have F4 := Lib.hid (F3.out.low hb)
          clear O2 
          go_wp2_with fail
          refine hK.out _ _ ?_ (fun hHeld2 => ?_)
          · exact ⟨cell_later hb hHeld.1, cell_later hb hHeld.2.1, cell_later hb hHeld.2.2⟩
          clear hK K hHeld hb
          have hHeld := hHeld2
          clear hHeld2
          try simp only [Act.put, List.setIfInBounds_toArray, List.set_cons_zero, List.set_cons_succ]
          refine wpAnyH_take (i := 6) (oi := ⟨some 26, _, _, _, _, _⟩) (v := ?_) rfl (by kernel_rfl) (by kernel_rfl) (by kernel_rfl) (fun _ _ _ h => h) (Or.inl ⟨by rfl, ?_⟩) (by assumption) ?_
          rotate_left 1
          · intro w hSw; (try dsimp only at hSw); go_simp; try (with_reducible rfl)
          try simp only [Act.put, List.setIfInBounds_toArray, List.set_cons_zero, List.set_cons_succ]
          refine wpAnyH_take (i := 7) (oi := ⟨some 33, _, _, _, _, _⟩) (v := ?_) rfl (by kernel_rfl) (by kernel_rfl) (by kernel_rfl) (fun _ _ _ h => h) (Or.inl ⟨by rfl, ?_⟩) (by assumption) ?_
          rotate_left 1
          · intro w hSw; (try dsimp only at hSw); go_simp; try (with_reducible rfl)
          try simp only [Act.put, List.setIfInBounds_toArray, List.set_cons_zero, List.set_cons_succ]
          refine wpAnyH_take (i := 8) (oi := ⟨some 34, _, _, _, _, _⟩) (v := ?_) rfl (by kernel_rfl) (by kernel_rfl) (by kernel_rfl) (fun _ _ _ h => h) (Or.inl ⟨by rfl, ?_⟩) (by assumption) ?_
          rotate_left 1
          · intro w hSw; (try dsimp only at hSw); go_simp; try (with_reducible rfl)
          try simp only [Act.put, List.setIfInBounds_toArray, List.set_cons_zero, List.set_cons_succ]
          refine wpAnyH_take (i := 9) (oi := ⟨some 35, _, _, _, _, _⟩) (v := ?_) rfl (by kernel_rfl) (by kernel_rfl) (by kernel_rfl) (fun _ _ _ h => h) (Or.inl ⟨by rfl, ?_⟩) (by assumption) ?_
          rotate_left 1
          · intro w hSw; (try dsimp only at hSw); go_simp; try (with_reducible rfl)
          try simp only [Act.put, List.setIfInBounds_toArray, List.set_cons_zero, List.set_cons_succ]
          obtain ⟨g0, g1⟩ := F4.out.bx _ rfl
          obtain ⟨⟨n0, n1, n2, n3, n4, n5, n6, n7, n8⟩, ⟨m0, m1, m2, m3, m4, m5, m6, m7, m8⟩, hxl⟩ := nine_all g1
          have hY := F4.out.doneP (q := q) R4.out (by intro h; have := hbx4 _ rfl; have := h.1; omega)
          have hYB : Below w1.heap.size w1 _ := (by obtain ⟨_, _, _, _, _, _, _, _, _, _, _, _, _, h⟩ := hY; exact h)
          have hY := Lib.hid hY
          have hYB := Lib.hid hYB
          clear R4 hbx4
          refine wpAnyH_take (i := 11) (oi := ⟨some 8, _, _, _, _, _⟩) (v := ?_) rfl (by kernel_rfl) (by kernel_rfl) (by kernel_rfl) (fun _ _ _ h => h) (Or.inl ⟨by rfl, ?_⟩) (by assumption) ?_
          rotate_left 1
          · intro w hSw; (try dsimp only at hSw); go_simp; try (with_reducible rfl)
          try simp only [Act.put, List.setIfInBounds_toArray, List.set_cons_zero, List.set_cons_succ]
          refine wpAnyH_ready (rs := [12]) (by kernel_rfl) (by simp) ?_
          refine AllReadyH.cons (o := ⟨none, _, _, _, _, _⟩) rfl (fun K hK => ?_) AllReadyH.nil
          go_simp
          refine hK.out _ _ ?_ (fun hHeld2 => ?_)
          · exact ⟨cell_later hYB.out i0, cell_later hYB.out i1, cell_later hYB.out i2⟩
          clear hK K hHeld F4 n0 n1 n2 n3 n4 n5 n6 n7 n8 m0 m1 m2 m3 m4 m5 m6 m7 m8 g0 g1
          have hHeld := hHeld2
          clear hHeld2
          try simp only [Act.put, List.setIfInBounds_toArray, List.set_cons_zero, List.set_cons_succ]
          refine wpAnyH_take (i := 13) (oi := ⟨some 10, _, _, _, _, _⟩) (v := ?_) rfl (by kernel_rfl) (by kernel_rfl) (by kernel_rfl) (fun _ _ _ h => h) (Or.inl ⟨by rfl, ?_⟩) (by assumption) ?_
          rotate_left 1
          · intro w hSw; (try dsimp only at hSw); go_simp; try (with_reducible rfl)
          try simp only [Act.put, List.setIfInBounds_toArray, List.set_cons_zero, List.set_cons_succ]
          refine wpAnyH_done (by kernel_rfl) ?_ _
          try simp only [Act.put, List.setIfInBounds_toArray, List.set_cons_zero, List.set_cons_succ]
          go_wp2_with fail
          go_meet
          exact hY
        refine AllReadyH.cons (o := ⟨some 9, _, _, _, _, _⟩) rfl (fun K hK => ?_) AllReadyH.nil
        have F2 := Lib.hid F1.out.box
        have BA := (Below.refl w2x.heap.size w2x).alloc (Nat.le_refl _) (.cells #[.int .i64 0, .int .i64 0, .int .i64 0, .int .i64 0, .int .i64 0, .int .i64 0, .int .i64 0, .int .i64 0, .slice none 0 0] 30)
        replace O2 := Lib.hid (O2.out.up BA)
        go_simp
        generalize (w2x.alloc (.cells #[.int .i64 0, .int .i64 0, .int .i64 0, .int .i64 0, .int .i64 0, .int .i64 0, .int .i64 0, .int .i64 0, .slice none 0 0] 30)) = V2 at F2 BA O2 ⊢
        refine hK.out _ _ ?_ (fun hHeld2 => ?_)
        · exact ⟨cell_later BA hHeld.1, cell_later BA hHeld.2.1, cell_later BA hHeld.2.2⟩
        clear hK K hHeld BA
        have hHeld := hHeld2
        clear hHeld2
        try simp only [Act.put, List.setIfInBounds_toArray, List.set_cons_zero, List.set_cons_succ]
        refine wpAnyH_ready (rs := [4]) (by kernel_rfl) (by simp) ?_
        refine AllReadyH.cons (o := ⟨some 31, _, _, _, _, _⟩) rfl (fun K hK => ?_) AllReadyH.nil
        go_simp
        (with_reducible refine (tc _).mono ?_)
        rintro e w3x ⟨rfl, hb⟩
        replace O2 := Lib.hid (O2.out.up hb)
        have F3 := Lib.hid (F2.out.low hb)
        go_wp2_with fail
        refine hK.out _ _ ?_ (fun hHeld2 => ?_)
        · exact ⟨cell_later hb hHeld.1, cell_later hb hHeld.2.1, cell_later hb hHeld.2.2⟩
        clear hK K hHeld hb
        have hHeld := hHeld2
        clear hHeld2
        try simp only [Act.put, List.setIfInBounds_toArray, List.set_cons_zero, List.set_cons_succ]
        refine wpAnyH_ready (rs := [5]) (by kernel_rfl) (by simp) ?_
        refine AllReadyH.cons (o := ⟨some 32, _, _, _, _, _⟩) rfl (fun K hK => ?_) AllReadyH.nil
        go_simp
        have hbx4 := fun b e => lt_of_heap (F3.out.bx b e).2
        (with_reducible refine (sp _ _ O2.out.read).mono ?_)
        rintro e w4x ⟨g4, c4, a4, m4, d4, rfl, R4, hb⟩
        unfold env
        have R4 := Lib.hid R4
        have F4 := Lib.hid (F3.out.low hb)
        clear O2 
        go_wp2_with fail
        refine hK.out _ _ ?_ (fun hHeld2 => ?_)
        · exact ⟨cell_later hb hHeld.1, cell_later hb hHeld.2.1, cell_later hb hHeld.2.2⟩
        clear hK K hHeld hb
        have hHeld := hHeld2
        clear hHeld2
        try simp only [Act.put, List.setIfInBounds_toArray, List.set_cons_zero, List.set_cons_succ]
        refine wpAnyH_take (i := 6) (oi := ⟨some 26, _, _, _, _, _⟩) (v := ?_) rfl (by kernel_rfl) (by kernel_rfl) (by kernel_rfl) (fun _ _ _ h => h) (Or.inl ⟨by rfl, ?_⟩) (by assumption) ?_
        rotate_left 1
        · intro w hSw; (try dsimp only at hSw); go_simp; try (with_reducible rfl)
        try simp only [Act.put, List.setIfInBounds_toArray, List.set_cons_zero, List.set_cons_succ]
        refine wpAnyH_take (i := 7) (oi := ⟨some 33, _, _, _, _, _⟩) (v := ?_) rfl (by kernel_rfl) (by kernel_rfl) (by kernel_rfl) (fun _ _ _ h => h) (Or.inl ⟨by rfl, ?_⟩) (by assumption) ?_
        rotate_left 1
        · intro w hSw; (try dsimp only at hSw); go_simp; try (with_reducible rfl)
        try simp only [Act.put, List.setIfInBounds_toArray, List.set_cons_zero, List.set_cons_succ]
        refine wpAnyH_take (i := 8) (oi := ⟨some 34, _, _, _, _, _⟩) (v := ?_) rfl (by kernel_rfl) (by kernel_rfl) (by kernel_rfl) (fun _ _ _ h => h) (Or.inl ⟨by rfl, ?_⟩) (by assumption) ?_
        rotate_left 1
        · intro w hSw; (try dsimp only at hSw); go_simp; try (with_reducible rfl)
        try simp only [Act.put, List.setIfInBounds_toArray, List.set_cons_zero, List.set_cons_succ]
        refine wpAnyH_take (i := 9) (oi := ⟨some 35, _, _, _, _, _⟩) (v := ?_) rfl (by kernel_rfl) (by kernel_rfl) (by kernel_rfl) (fun _ _ _ h => h) (Or.inl ⟨by rfl, ?_⟩) (by assumption) ?_
        rotate_left 1
        · intro w hSw; (try dsimp only at hSw); go_simp; try (with_reducible rfl)
        try simp only [Act.put, List.setIfInBounds_toArray, List.set_cons_zero, List.set_cons_succ]
        obtain ⟨g0, g1⟩ := F4.out.bx _ rfl
        obtain ⟨⟨n0, n1, n2, n3, n4, n5, n6, n7, n8⟩, ⟨m0, m1, m2, m3, m4, m5, m6, m7, m8⟩, hxl⟩ := nine_all g1
        have hY := F4.out.doneP (q := q) R4.out (by intro h; have := hbx4 _ rfl; have := h.1; omega)
        have hYB : Below w1.heap.size w1 _ := (by obtain ⟨_, _, _, _, _, _, _, _, _, _, _, _, _, h⟩ := hY; exact h)
        have hY := Lib.hid hY
        have hYB := Lib.hid hYB
        clear R4 hbx4
        refine wpAnyH_take (i := 11) (oi := ⟨some 8, _, _, _, _, _⟩) (v := ?_) rfl (by kernel_rfl) (by kernel_rfl) (by kernel_rfl) (fun _ _ _ h => h) (Or.inl ⟨by rfl, ?_⟩) (by assumption) ?_
        rotate_left 1
        · intro w hSw; (try dsimp only at hSw); go_simp; try (with_reducible rfl)
        try simp only [Act.put, List.setIfInBounds_toArray, List.set_cons_zero, List.set_cons_succ]
        refine wpAnyH_ready (rs := [12]) (by kernel_rfl) (by simp) ?_
        refine AllReadyH.cons (o := ⟨none, _, _, _, _, _⟩) rfl (fun K hK => ?_) AllReadyH.nil
        go_simp
        refine hK.out _ _ ?_ (fun hHeld2 => ?_)
        · exact ⟨cell_later hYB.out i0, cell_later hYB.out i1, cell_later hYB.out i2⟩
        clear hK K hHeld F4 n0 n1 n2 n3 n4 n5 n6 n7 n8 m0 m1 m2 m3 m4 m5 m6 m7 m8 g0 g1
        have hHeld := hHeld2
        clear hHeld2
        try simp only [Act.put, List.setIfInBounds_toArray, List.set_cons_zero, List.set_cons_succ]
        refine wpAnyH_take (i := 13) (oi := ⟨some 10, _, _, _, _, _⟩) (v := ?_) rfl (by kernel_rfl) (by kernel_rfl) (by kernel_rfl) (fun _ _ _ h => h) (Or.inl ⟨by rfl, ?_⟩) (by assumption) ?_
        rotate_left 1
        · intro w hSw; (try dsimp only at hSw); go_simp; try (with_reducible rfl)
        try simp only [Act.put, List.setIfInBounds_toArray, List.set_cons_zero, List.set_cons_succ]
        refine wpAnyH_done (by kernel_rfl) ?_ _
        try simp only [Act.put, List.setIfInBounds_toArray, List.set_cons_zero, List.set_cons_succ]
        go_wp2_with fail
        go_meet
        exact hY
      refine AllReadyH.cons (o := ⟨some 9, _, _, _, _, _⟩) rfl (fun K hK => ?_) AllReadyH.nil
      have F1 := Lib.hid F0.out.box
      have BA := (Below.refl V0.heap.size V0).alloc (Nat.le_refl _) (.cells #[.int .i64 0, .int .i64 0, .int .i64 0, .int .i64 0, .int .i64 0, .int .i64 0, .int .i64 0, .int .i64 0, .slice none 0 0] 30)
      go_simp
      generalize (V0.alloc (.cells #[.int .i64 0, .int .i64 0, .int .i64 0, .int .i64 0, .int .i64 0, .int .i64 0, .int .i64 0, .int .i64 0, .slice none 0 0] 30)) = V1 at F1 BA  ⊢
      refine hK.out _ _ ?_ (fun hHeld2 => ?_)
      · exact ⟨cell_later BA hHeld.1, cell_later BA hHeld.2.1, cell_later BA hHeld.2.2⟩
      clear hK K hHeld BA
      have hHeld := hHeld2
      clear hHeld2
      try simp only [Act.put, List.setIfInBounds_toArray, List.set_cons_zero, List.set_cons_succ]
      refine wpAnyH_ready (rs := [1]) (by kernel_rfl) (by simp) ?_
      refine AllReadyH.cons (o := ⟨some 28, _, _, _, _, _⟩) rfl (fun K hK => ?_) AllReadyH.nil
      go_simp
      (with_reducible refine (te _ (bstep E0.out F1.out.kp)).mono ?_)
      rintro e w2x ⟨u2, rfl, O2, hb⟩
      have O2 := Lib.hid O2
      have F2 := Lib.hid (F1.out.low hb)
      go_wp2_with fail
      refine hK.out _ _ ?_ (fun hHeld2 => ?_)
      · exact ⟨cell_later hb hHeld.1, cell_later hb hHeld.2.1, cell_later hb hHeld.2.2⟩
      clear hK K hHeld hb
      have hHeld := hHeld2
      clear hHeld2
      try simp only [Act.put, List.setIfInBounds_toArray, List.set_cons_zero, List.set_cons_succ]
      refine wpAnyH_ready (rs := [4]) (by kernel_rfl) (by simp) ?_
      refine AllReadyH.cons (o := ⟨some 31, _, _, _, _, _⟩) rfl (fun K hK => ?_) AllReadyH.nil
      go_simp
      (with_reducible refine (tc _).mono ?_)
      rintro e w3x ⟨rfl, hb⟩
      replace O2 := Lib.hid (O2.out.up hb)
      have F3 := Lib.hid (F2.out.low hb)
      go_wp2_with fail
      refine hK.out _ _ ?_ (fun hHeld2 => ?_)
      · exact ⟨cell_later hb hHeld.1, cell_later hb hHeld.2.1, cell_later hb hHeld.2.2⟩
      clear hK K hHeld hb
      have hHeld := hHeld2
      clear hHeld2
      try simp only [Act.put, List.setIfInBounds_toArray, List.set_cons_zero, List.set_cons_succ]
      refine wpAnyH_ready (rs := [5]) (by kernel_rfl) (by simp) ?_
      refine AllReadyH.cons (o := ⟨some 32, _, _, _, _, _⟩) rfl (fun K hK => ?_) AllReadyH.nil
      go_simp
      have hbx4 := fun b e => lt_of_heap (F3.out.bx b e).2
      (with_reducible refine (sp _ _ O2.out.read).mono ?_)
      rintro e w4x ⟨g4, c4, a4, m4, d4, rfl, R4, hb⟩
      unfold env
      have R4 := Lib.hid R4
      have F4 := Lib.hid (F3.out.low hb)
      clear O2 
      go_wp2_with fail
      refine hK.out _ _ ?_ (fun hHeld2 => ?_)
      · exact ⟨cell_later hb hHeld.1, cell_later hb hHeld.2.1, cell_later hb hHeld.2.2⟩
      clear hK K hHeld hb
      have hHeld := hHeld2
      clear hHeld2
      try simp only [Act.put, List.setIfInBounds_toArray, List.set_cons_zero, List.set_cons_succ]
      refine wpAnyH_take (i := 6) (oi := ⟨some 26, _, _, _, _, _⟩) (v := ?_) rfl (by kernel_rfl) (by kernel_rfl) (by kernel_rfl) (fun _ _ _ h => h) (Or.inl ⟨by rfl, ?_⟩) (by assumption) ?_
      rotate_left 1
      · intro w hSw; (try dsimp only at hSw); go_simp; try (with_reducible rfl)
      try simp only [Act.put, List.setIfInBounds_toArray, List.set_cons_zero, List.set_cons_succ]
      refine wpAnyH_take (i := 7) (oi := ⟨some 33, _, _, _, _, _⟩) (v := ?_) rfl (by kernel_rfl) (by kernel_rfl) (by kernel_rfl) (fun _ _ _ h => h) (Or.inl ⟨by rfl, ?_⟩) (by assumption) ?_
      rotate_left 1
      · intro w hSw; (try dsimp only at hSw); go_simp; try (with_reducible rfl)
      try simp only [Act.put, List.setIfInBounds_toArray, List.set_cons_zero, List.set_cons_succ]
      refine wpAnyH_take (i := 8) (oi := ⟨some 34, _, _, _, _, _⟩) (v := ?_) rfl (by kernel_rfl) (by kernel_rfl) (by kernel_rfl) (fun _ _ _ h => h) (Or.inl ⟨by rfl, ?_⟩) (by assumption) ?_
      rotate_left 1
      · intro w hSw; (try dsimp only at hSw); go_simp; try (with_reducible rfl)
      try simp only [Act.put, List.setIfInBounds_toArray, List.set_cons_zero, List.set_cons_succ]
      refine wpAnyH_take (i := 9) (oi := ⟨some 35, _, _, _, _, _⟩) (v := ?_) rfl (by kernel_rfl) (by kernel_rfl) (by kernel_rfl) (fun _ _ _ h => h) (Or.inl ⟨by rfl, ?_⟩) (by assumption) ?_
      rotate_left 1
      · intro w hSw; (try dsimp only at hSw); go_simp; try (with_reducible rfl)
      try simp only [Act.put, List.setIfInBounds_toArray, List.set_cons_zero, List.set_cons_succ]
      obtain ⟨g0, g1⟩ := F4.out.bx _ rfl
      obtain ⟨⟨n0, n1, n2, n3, n4, n5, n6, n7, n8⟩, ⟨m0, m1, m2, m3, m4, m5, m6, m7, m8⟩, hxl⟩ := nine_all g1
      have hY := F4.out.doneP (q := q) R4.out (by intro h; have := hbx4 _ rfl; have := h.1; omega)
      have hYB : Below w1.heap.size w1 _ := (by obtain ⟨_, _, _, _, _, _, _, _, _, _, _, _, _, h⟩ := hY; exact h)
      have hY := Lib.hid hY
      have hYB := Lib.hid hYB
      clear R4 hbx4
      refine wpAnyH_take (i := 11) (oi := ⟨some 8, _, _, _, _, _⟩) (v := ?_) rfl (by kernel_rfl) (by kernel_rfl) (by kernel_rfl) (fun _ _ _ h => h) (Or.inl ⟨by rfl, ?_⟩) (by assumption) ?_
      rotate_left 1
      · intro w hSw; (try dsimp only at hSw); go_simp; try (with_reducible rfl)
      try simp only [Act.put, List.setIfInBounds_toArray, List.set_cons_zero, List.set_cons_succ]
      refine wpAnyH_ready (rs := [12]) (by kernel_rfl) (by simp) ?_
      refine AllReadyH.cons (o := ⟨none, _, _, _, _, _⟩) rfl (fun K hK => ?_) AllReadyH.nil
      go_simp
      refine hK.out _ _ ?_ (fun hHeld2 => ?_)
      · exact ⟨cell_later hYB.out i0, cell_later hYB.out i1, cell_later hYB.out i2⟩
      clear hK K hHeld F4 n0 n1 n2 n3 n4 n5 n6 n7 n8 m0 m1 m2 m3 m4 m5 m6 m7 m8 g0 g1
      have hHeld := hHeld2
      clear hHeld2
      try simp only [Act.put, List.setIfInBounds_toArray, List.set_cons_zero, List.set_cons_succ]
      refine wpAnyH_take (i := 13) (oi := ⟨some 10, _, _, _, _, _⟩) (v := ?_) rfl (by kernel_rfl) (by kernel_rfl) (by kernel_rfl) (fun _ _ _ h => h) (Or.inl ⟨by rfl, ?_⟩) (by assumption) ?_
      rotate_left 1
      · intro w hSw; (try dsimp only at hSw); go_simp; try (with_reducible rfl)
      try simp only [Act.put, List.setIfInBounds_toArray, List.set_cons_zero, List.set_cons_succ]
      refine wpAnyH_done (by kernel_rfl) ?_ _
      try simp only [Act.put, List.setIfInBounds_toArray, List.set_cons_zero, List.set_cons_succ]
      go_wp2_with fail
      go_meet
      exact hY
    case rest =>
      obtain ⟨xb5, g5, c5, a5, m5, d5, rfl, rfl, rfl, X5, N5, I5, hx5, E5⟩ := hcut.out
      have X5 := Lib.hid X5
      have N5 := Lib.hid N5
      have I5 := Lib.hid I5
      have E5 := Lib.hid E5
      have hI5 := Lib.hid (bblk E5.out hil hI.out)
      have hl5 := lt_of_heap X5.out
      clear hcut i0 i1 i2 sp E0 hx5
      go_wp2_with fail
      refine (te _ E5.out).mono ?_
      rintro e w8 ⟨v8, rfl, O8, B⟩
      obtain ⟨gx, cx, Lx, rfl, hm1, hm2, hm3⟩ := O8.mk
      have O8 := Lib.hid O8
      have hm3 := Lib.hid hm3
      have K := Lib.hid B
      have hs8 := B.size
      clear B
      obtain ⟨i0, i1, i2, _, _, _⟩ := blk3 (bblk K.out (lt_of_heap hI5.out) hI5.out)
      have hil8 : ib < w8.heap.size := Nat.lt_of_lt_of_le (lt_of_heap hI5.out) hs8
      go_wp2_with fail
      refine (tc _).mono ?_
      rintro e w9 ⟨rfl, B⟩
      replace K := Lib.hid (bstep K.out B)
      replace O8 := Lib.hid (O8.out.up B)
      replace hm3 := Lib.hid (hm3.out.up B)
      have hs9 := B.size
      clear B i0 i1 i2 hil8
      go_wp2_with fail
      refine (ip _ _ (TabIn.up hT.out (bstep E5.out K.out) (Nat.le_refl _)) O8.out.read).mono ?_
      rintro e w10 ⟨v10, u10, S10, rfl, s1, s2, Z, L, B⟩
      obtain ⟨g10, c10, hv10, _⟩ := L.shape
      subst hv10
      obtain ⟨va9, vn9, vc9, rfl⟩ : ∃ ua un uc, u10 = .slice ua un uc := by obtain ⟨a, c, e, _⟩ := Z.read; exact ⟨a, _, c, e⟩
      have BA := (Below.refl w10.heap.size w10).alloc (Nat.le_refl _) (.cells #[.int .i64 Y.id.1, .int .i64 Y.id.2, .int .i64 Y.bal, .int .i64 Y.st, .int .i64 Y.k, .int .i64 Y.key, .int .i64 Y.v, .int .i64 Y.seq, .slice va9 vn9 vc9] 30)
      have X9 := Lib.hid (show BxE (w10.alloc (.cells #[.int .i64 Y.id.1, .int .i64 Y.id.2, .int .i64 Y.bal, .int .i64 Y.st, .int .i64 Y.k, .int .i64 Y.key, .int .i64 Y.v, .int .i64 Y.seq, .slice va9 vn9 vc9] 30)) w10.heap.size Y (.slice va9 vn9 vc9) from heap_alloc_new _ _)
      have Z := Lib.hid (Z.up BA)
      have L := Lib.hid (L.up BA)
      have B2 := bstep B BA
      replace K := Lib.hid (bstep K.out B2)
      replace O8 := Lib.hid (O8.out.up B2)
      replace hm3 := Lib.hid (hm3.out.up B2)
      clear B BA B2
      go_upto_region 8 with fail
      obtain ⟨S5, hS5⟩ : ∃ n, Hid (wc.heap.size = n) := ⟨_, Lib.hid rfl⟩
      obtain ⟨S6, hS6⟩ : ∃ n, Hid (w8.heap.size = n) := ⟨_, Lib.hid rfl⟩
      obtain ⟨B9, hB9⟩ : ∃ n, Hid (w9.heap.size = n) := ⟨_, Lib.hid rfl⟩
      obtain ⟨T9, hT9⟩ : ∃ n, Hid (w10.heap.size = n) := ⟨_, Lib.hid rfl⟩
      rw [hT9.out] at X9 L s2 ⊢
      rw [hB9.out] at Z s1 hs9
      rw [hS6.out] at hm3 hs8 hs9
      rw [hS5.out] at hm3 O8 hs8 hl5
      generalize w10.alloc (.cells #[.int .i64 Y.id.1, .int .i64 Y.id.2, .int .i64 Y.bal, .int .i64 Y.st, .int .i64 Y.k, .int .i64 Y.key, .int .i64 Y.v, .int .i64 Y.seq, .slice va9 vn9 vc9] 30) = w11 at X9 Z L K O8 hm3 ⊢
      clear hS6 hB9 hT9 ip
      have hKS : S5 ≤ wc.heap.size := by rw [hS5.out]; exact Nat.le_refl _
      have hKS2 : wc.heap.size ≤ S5 := by rw [hS5.out]; exact Nat.le_refl _
      go_wp2_with fail
      refine (eqEs_any _ _ N _ L.out.read (N5.out.up K.out (Nat.le_refl _))).mono ?_
      rintro e w12 ⟨rfl, B⟩
      replace K := Lib.hid (bstep K.out B)
      replace O8 := Lib.hid (O8.out.up B)
      replace hm3 := Lib.hid (hm3.out.up B)
      replace Z := Lib.hid (Z.out.up B)
      replace L := Lib.hid (L.out.up B)
      replace X9 := Lib.hid (X9.out.up B)
      clear B
      have X5c := X5.out.up K.out
      obtain ⟨⟨p0, p1, p2, p3, p4, p5, p6, p7, p8⟩, pl⟩ := X5c.cells
      obtain ⟨⟨r0, r1, r2, r3, r4, r5, r6, r7, r8⟩, rl⟩ := X9.out.cells
      go_wp2_with fail
      refine (eqE_any Y _ _ _ Z.out.read (I5.out.up K.out (Nat.le_refl _))).mono ?_
      rintro e w13 ⟨rfl, B⟩
      clear p0 p1 p2 p3 p4 p5 p6 p7 p8 pl r0 r1 r2 r3 r4 r5 r6 r7 r8 rl X5c
      replace K := Lib.hid (bstep K.out B)
      replace O8 := Lib.hid (O8.out.up B)
      replace hm3 := Lib.hid (hm3.out.up B)
      replace Z := Lib.hid (Z.out.up B)
      replace L := Lib.hid (L.out.up B)
      replace X9 := Lib.hid (X9.out.up B)
      clear B
      go_wp2_with fail
      refine (te _ (bstep E5.out K.out)).mono ?_
      rintro e w14 ⟨v14, rfl, O14, B⟩
      have O14 := Lib.hid O14
      replace K := Lib.hid (bstep K.out B)
      replace O8 := Lib.hid (O8.out.up B)
      replace hm3 := Lib.hid (hm3.out.up B)
      replace Z := Lib.hid (Z.out.up B)
      replace L := Lib.hid (L.out.up B)
      replace X9 := Lib.hid (X9.out.up B)
      clear B
      go_wp2_with fail
      refine (eqEs_any _ _ E _ O8.out.read O14.out.read).mono ?_
      rintro e w15 ⟨rfl, B⟩
      replace K := Lib.hid (bstep K.out B)
      replace hm3 := Lib.hid (hm3.out.up B)
      replace Z := Lib.hid (Z.out.up B)
      replace L := Lib.hid (L.out.up B)
      replace X9 := Lib.hid (X9.out.up B)
      clear B O8 O14
      have mk := markEs_any _ _ gx E.length cx Lx _ hm1 hm3.out
      go_wp2_with fail
      refine mk.mono ?_
      rintro e w16 ⟨zk, rfl, hzk, XX⟩
      have hzk2 : ¬ zk < 0 := by omega
      replace K := Lib.hid (K.out.trans (XX.to K.out.size (fun c h => by omega)))
      replace Z := Lib.hid (Z.out.apart XX (fun c h1 h2 h => by omega))
      replace L := Lib.hid (L.out.apart XX (fun c h1 h2 h => by omega))
      replace X9 := Lib.hid (X9.out.apart XX (by omega))
      clear XX mk hm3
      go_wp2_with fail
      refine (eqEs_any _ _ N _ L.out.read (N5.out.up K.out (Nat.le_refl _))).mono ?_
      rintro e w17 ⟨rfl, B⟩
      replace K := Lib.hid (bstep K.out B)
      replace Z := Lib.hid (Z.out.up B)
      replace L := Lib.hid (L.out.up B)
      replace X9 := Lib.hid (X9.out.up B)
      clear B
      have X5c := X5.out.up K.out
      obtain ⟨⟨p0, p1, p2, p3, p4, p5, p6, p7, p8⟩, pl⟩ := X5c.cells
      obtain ⟨⟨r0, r1, r2, r3, r4, r5, r6, r7, r8⟩, rl⟩ := X9.out.cells
      go_wp2_with fail
      refine (eqE_any Y _ _ _ Z.out.read (I5.out.up K.out (Nat.le_refl _))).mono ?_
      rintro e w18 ⟨rfl, B⟩
      clear p0 p1 p2 p3 p4 p5 p6 p7 p8 pl r0 r1 r2 r3 r4 r5 r6 r7 r8 rl X5c
      replace K := Lib.hid (bstep K.out B)
      replace Z := Lib.hid (Z.out.up B)
      replace L := Lib.hid (L.out.up B)
      replace X9 := Lib.hid (X9.out.up B)
      clear B
      have ml := markL_any _ _ _ N 1 _ L.out hN12 hNd.out (by omega) (by omega)
      have hkr := ks_range (fun i => N.getD i en0) 1 N.length (fun i hi => hNd.out i hi)
      have hk0 : 1 ≤ kN N 1 ∧ kN N 1 ≤ 1000 := ⟨hkr.1, by have := hkr.2; unfold kN; omega⟩
      go_wp2_with fail
      refine ml.mono ?_
      rintro e w19 ⟨rfl, M9, XX⟩
      have M9 := Lib.hid M9
      replace K := Lib.hid (K.out.trans (XX.to K.out.size (fun c h => by omega)))
      replace Z := Lib.hid (Z.out.apart XX (fun c h1 h2 h => by omega))
      replace X9 := Lib.hid (X9.out.apart XX (by omega))
      clear XX ml L hkr
      obtain ⟨kk, hkk⟩ : ∃ n, Hid (kN N 1 = n) := ⟨_, Lib.hid rfl⟩
      rw [hkk.out] at hk0 ⊢
      obtain ⟨⟨r0, r1, r2, r3, r4, r5, r6, r7, r8⟩, rl⟩ := X9.out.cells
      have me := markE_z B9 S10 Y (.slice va9 vn9 vc9) Y.deps kk _ Z.out (by omega) (by omega)
      unfold env at me
      go_wp2_with fail
      refine me.mono ?_
      rintro e w20 ⟨rfl, M, hM, hMk, hO, XX⟩
      clear r0 r1 r2 r3 r4 r5 r6 r7 r8 rl
      replace K := Lib.hid (K.out.trans (XX.to K.out.size (fun c h => by omega)))
      replace X9 := Lib.hid (X9.out.apart XX (by omega))
      replace M9 := Lib.hid (M9.out.apart XX (fun c h1 h2 h => by omega))
      have O9 := Lib.hid hO
      have hM := Lib.hid hM
      have hMk := Lib.hid hMk
      clear XX me hO Z
      have hDl : Y.deps.length ≤ 2000000 := by rw [← hM.out]; obtain ⟨_, _, _, _, h, _⟩ := O9.out.read; exact h
      obtain ⟨ns, hns⟩ : ∃ n, Hid (Y.deps.length = n) := ⟨_, Lib.hid rfl⟩
      rw [hns.out] at hDl hM ⊢
      have hl20 := heldL_any _ _ _ N 1 _ M9.out hN12 hNd.out (by omega) (by omega)
      rw [hkk.out] at hl20
      go_wp2_with fail
      refine hl20.mono ?_
      rintro e w21 ⟨rfl, B⟩
      replace K := Lib.hid (bstep K.out B)
      replace X9 := Lib.hid (X9.out.up B)
      replace M9 := Lib.hid (M9.out.up B)
      replace O9 := Lib.hid (O9.out.up B)
      clear B hl20
      have hkn : ¬ kk < 0 := by omega
      have hkn2 : ¬ kk + 2 * (ns : Int) < 0 := by omega
      obtain ⟨⟨r0, r1, r2, r3, r4, r5, r6, r7, r8⟩, rl⟩ := X9.out.cells
      have he := heldE_z Y (.slice va9 vn9 vc9) kk M _ hMk.out O9.out.read (by omega) (by omega)
      rw [hM.out] at he
      unfold env at he
      go_wp2_with fail
      refine he.mono ?_
      rintro e wn ⟨rfl, B⟩
      clear r0 r1 r2 r3 r4 r5 r6 r7 r8 rl
      replace K := Lib.hid (bstep K.out B)
      replace X9 := Lib.hid (X9.out.up B)
      replace M9 := Lib.hid (M9.out.up B)
      replace O9 := Lib.hid (O9.out.up B)
      clear B he
      have EE := Lib.hid (bstep E5.out K.out)
      have hIn := Lib.hid (bblk K.out (lt_of_heap hI5.out) hI5.out)
      obtain ⟨i0, i1, i2, _, _, _⟩ := blk3 hIn.out
      have hiln := lt_of_heap hIn.out
      go_upto_region 28 with fail
      go_cut [18, 19, 20] from 108 to 117 (fun s18 s19 s20 wx => Hid (PrQ N Y q wn s18 s19 s20 wx))
      case first =>
        have F0 := Lib.hid (FE.start (w0 := wn))
        refine wp_region_held_drew (S := fun w' => w'.cell? ⟨ib, 0, none⟩ = some (.int .i64 k) ∧ w'.cell? ⟨ib, 1, none⟩ = some (.int .i64 key) ∧ w'.cell? ⟨ib, 2, none⟩ = some (.int .i64 v)) (by kernel_rfl) ⟨i0, i1, i2⟩ (fun hHeld => ?_)
        generalize wn.drew = V0 at F0 hHeld ⊢
        refine wpAnyH_take (i := 0) (oi := ⟨some 109, _, _, _, _, _⟩) (v := ?_) rfl (by kernel_rfl) (by kernel_rfl) (by kernel_rfl) (fun _ _ _ h => h) (Or.inl ⟨by rfl, ?_⟩) (by assumption) ?_
        rotate_left 1
        · intro w hSw; (try dsimp only at hSw); go_simp; try (with_reducible rfl)
        try simp only [Act.put, List.setIfInBounds_toArray, List.set_cons_zero, List.set_cons_succ]
        refine wpAnyH_take (i := 2) (oi := ⟨some 111, _, _, _, _, _⟩) (v := ?_) rfl (by kernel_rfl) (by kernel_rfl) (by kernel_rfl) (fun _ _ _ h => h) (Or.inl ⟨by rfl, ?_⟩) (by assumption) ?_
        rotate_left 1
        · intro w hSw; (try dsimp only at hSw); go_simp; try (with_reducible rfl)
        try simp only [Act.put, List.setIfInBounds_toArray, List.set_cons_zero, List.set_cons_succ]
        refine wpAnyH_take (i := 3) (oi := ⟨some 112, _, _, _, _, _⟩) (v := ?_) rfl (by kernel_rfl) (by kernel_rfl) (by kernel_rfl) (fun _ _ _ h => h) (Or.inl ⟨by rfl, ?_⟩) (by assumption) ?_
        rotate_left 1
        · intro w hSw; (try dsimp only at hSw); go_simp; try (with_reducible rfl)
        try simp only [Act.put, List.setIfInBounds_toArray, List.set_cons_zero, List.set_cons_succ]
        refine wpAnyH_ready (rs := [1, 10]) (by kernel_rfl) (by simp) ?_
        refine AllReadyH.cons (o := ⟨some 110, _, _, _, _, _⟩) rfl (fun K hK => ?_) ?_
        · go_simp
          (with_reducible refine (te _ (bstep EE.out F0.out.kp)).mono ?_)
          rintro e w2x ⟨u2, rfl, O2, hb⟩
          have O2 := Lib.hid O2
          have F1 := Lib.hid (F0.out.low hb)
          go_wp2_with fail
          refine hK.out _ _ ?_ (fun hHeld2 => ?_)
          · exact ⟨cell_later hb hHeld.1, cell_later hb hHeld.2.1, cell_later hb hHeld.2.2⟩
          clear hK K hHeld hb
          have hHeld := hHeld2
          clear hHeld2
          try simp only [Act.put, List.setIfInBounds_toArray, List.set_cons_zero, List.set_cons_succ]
          refine wpAnyH_ready (rs := [4, 10]) (by kernel_rfl) (by simp) ?_
          refine AllReadyH.cons (o := ⟨some 113, _, _, _, _, _⟩) rfl (fun K hK => ?_) ?_
          · go_simp
            (with_reducible refine (tc _).mono ?_)
            rintro e w3x ⟨rfl, hb⟩
            replace O2 := Lib.hid (O2.out.up hb)
            have F2 := Lib.hid (F1.out.low hb)
            go_wp2_with fail
            refine hK.out _ _ ?_ (fun hHeld2 => ?_)
            · exact ⟨cell_later hb hHeld.1, cell_later hb hHeld.2.1, cell_later hb hHeld.2.2⟩
            clear hK K hHeld hb
            have hHeld := hHeld2
            clear hHeld2
            try simp only [Act.put, List.setIfInBounds_toArray, List.set_cons_zero, List.set_cons_succ]
            refine wpAnyH_ready (rs := [5, 10]) (by kernel_rfl) (by simp) ?_
            refine AllReadyH.cons (o := ⟨some 114, _, _, _, _, _⟩) rfl (fun K hK => ?_) ?_
            · go_simp
              have hbx4 := fun b e => lt_of_heap (F2.out.bx b e).2
              (with_reducible refine (ir _ _ (TabIn.up hT.out (bstep EE.out F2.out.kp) (Nat.le_refl _)) O2.out.read).mono ?_)
              rintro e w4x ⟨g4, c4, a4, m4, d4, rfl, R4, hb⟩
              unfold env
              have R4 := Lib.hid R4
              have F3 := Lib.hid (F2.out.low hb)
              clear O2 
              go_wp2_with fail
              refine hK.out _ _ ?_ (fun hHeld2 => ?_)
              · exact ⟨cell_later hb hHeld.1, cell_later hb hHeld.2.1, cell_later hb hHeld.2.2⟩
              clear hK K hHeld hb
              have hHeld := hHeld2
              clear hHeld2
              try simp only [Act.put, List.setIfInBounds_toArray, List.set_cons_zero, List.set_cons_succ]
              refine wpAnyH_take (i := 6) (oi := ⟨some 108, _, _, _, _, _⟩) (v := ?_) rfl (by kernel_rfl) (by kernel_rfl) (by kernel_rfl) (fun _ _ _ h => h) (Or.inl ⟨by rfl, ?_⟩) (by assumption) ?_
              rotate_left 1
              · intro w hSw; (try dsimp only at hSw); go_simp; try (with_reducible rfl)
              try simp only [Act.put, List.setIfInBounds_toArray, List.set_cons_zero, List.set_cons_succ]
              refine wpAnyH_take (i := 7) (oi := ⟨some 115, _, _, _, _, _⟩) (v := ?_) rfl (by kernel_rfl) (by kernel_rfl) (by kernel_rfl) (fun _ _ _ h => h) (Or.inl ⟨by rfl, ?_⟩) (by assumption) ?_
              rotate_left 1
              · intro w hSw; (try dsimp only at hSw); go_simp; try (with_reducible rfl)
              try simp only [Act.put, List.setIfInBounds_toArray, List.set_cons_zero, List.set_cons_succ]
              refine wpAnyH_take (i := 8) (oi := ⟨some 116, _, _, _, _, _⟩) (v := ?_) rfl (by kernel_rfl) (by kernel_rfl) (by kernel_rfl) (fun _ _ _ h => h) (Or.inl ⟨by rfl, ?_⟩) (by assumption) ?_
              rotate_left 1
              · intro w hSw; (try dsimp only at hSw); go_simp; try (with_reducible rfl)
              try simp only [Act.put, List.setIfInBounds_toArray, List.set_cons_zero, List.set_cons_succ]
              refine wpAnyH_take (i := 9) (oi := ⟨some 117, _, _, _, _, _⟩) (v := ?_) rfl (by kernel_rfl) (by kernel_rfl) (by kernel_rfl) (fun _ _ _ h => h) (Or.inl ⟨by rfl, ?_⟩) (by assumption) ?_
              rotate_left 1
              · intro w hSw; (try dsimp only at hSw); go_simp; try (with_reducible rfl)
              try simp only [Act.put, List.setIfInBounds_toArray, List.set_cons_zero, List.set_cons_succ]
              refine wpAnyH_ready (rs := [10]) (by kernel_rfl) (by simp) ?_
              refine AllReadyH.cons (o := ⟨some 19, _, _, _, _, _⟩) rfl (fun K hK => ?_) AllReadyH.nil
              have F4 := Lib.hid F3.out.box
              have BA := (Below.refl w4x.heap.size w4x).alloc (Nat.le_refl _) (.cells #[.int .i64 0, .int .i64 0, .int .i64 0, .int .i64 0, .int .i64 0, .int .i64 0, .int .i64 0, .int .i64 0, .slice none 0 0] 30)
              replace R4 := Lib.hid (R4.out.up BA)
              go_simp
              generalize (w4x.alloc (.cells #[.int .i64 0, .int .i64 0, .int .i64 0, .int .i64 0, .int .i64 0, .int .i64 0, .int .i64 0, .int .i64 0, .slice none 0 0] 30)) = V4 at F4 BA R4 ⊢
              refine hK.out _ _ ?_ (fun hHeld2 => ?_)
              · exact ⟨cell_later BA hHeld.1, cell_later BA hHeld.2.1, cell_later BA hHeld.2.2⟩
              clear hK K hHeld BA
              have hHeld := hHeld2
              clear hHeld2
              try simp only [Act.put, List.setIfInBounds_toArray, List.set_cons_zero, List.set_cons_succ]
              obtain ⟨g0, g1⟩ := F4.out.bx _ rfl
              obtain ⟨⟨n0, n1, n2, n3, n4, n5, n6, n7, n8⟩, ⟨m0, m1, m2, m3, m4, m5, m6, m7, m8⟩, hxl⟩ := nine_all g1
              have hY := F4.out.doneP (q := q) R4.out (by intro h; have := h.2; omega)
              have hYB : Below wn.heap.size wn _ := (by obtain ⟨_, _, _, _, _, _, _, _, _, _, _, _, _, h⟩ := hY; exact h)
              have hY := Lib.hid hY
              have hYB := Lib.hid hYB
              clear R4 hbx4
              refine wpAnyH_take (i := 11) (oi := ⟨some 18, _, _, _, _, _⟩) (v := ?_) rfl (by kernel_rfl) (by kernel_rfl) (by kernel_rfl) (fun _ _ _ h => h) (Or.inl ⟨by rfl, ?_⟩) (by assumption) ?_
              rotate_left 1
              · intro w hSw; (try dsimp only at hSw); go_simp; try (with_reducible rfl)
              try simp only [Act.put, List.setIfInBounds_toArray, List.set_cons_zero, List.set_cons_succ]
              refine wpAnyH_ready (rs := [12]) (by kernel_rfl) (by simp) ?_
              refine AllReadyH.cons (o := ⟨none, _, _, _, _, _⟩) rfl (fun K hK => ?_) AllReadyH.nil
              go_simp
              refine hK.out _ _ ?_ (fun hHeld2 => ?_)
              · exact ⟨cell_later hYB.out i0, cell_later hYB.out i1, cell_later hYB.out i2⟩
              clear hK K hHeld F4 n0 n1 n2 n3 n4 n5 n6 n7 n8 m0 m1 m2 m3 m4 m5 m6 m7 m8 g0 g1
              have hHeld := hHeld2
              clear hHeld2
              try simp only [Act.put, List.setIfInBounds_toArray, List.set_cons_zero, List.set_cons_succ]
              refine wpAnyH_take (i := 13) (oi := ⟨some 20, _, _, _, _, _⟩) (v := ?_) rfl (by kernel_rfl) (by kernel_rfl) (by kernel_rfl) (fun _ _ _ h => h) (Or.inl ⟨by rfl, ?_⟩) (by assumption) ?_
              rotate_left 1
              · intro w hSw; (try dsimp only at hSw); go_simp; try (with_reducible rfl)
              try simp only [Act.put, List.setIfInBounds_toArray, List.set_cons_zero, List.set_cons_succ]
              refine wpAnyH_done (by kernel_rfl) ?_ _
              try simp only [Act.put, List.setIfInBounds_toArray, List.set_cons_zero, List.set_cons_succ]
              go_wp2_with fail
              go_meet
              exact hY
            refine AllReadyH.cons (o := ⟨some 19, _, _, _, _, _⟩) rfl (fun K hK => ?_) AllReadyH.nil
            have F3 := Lib.hid F2.out.box
            have BA := (Below.refl w3x.heap.size w3x).alloc (Nat.le_refl _) (.cells #[.int .i64 0, .int .i64 0, .int .i64 0, .int .i64 0, .int .i64 0, .int .i64 0, .int .i64 0, .int .i64 0, .slice none 0 0] 30)
            replace O2 := Lib.hid (O2.out.up BA)
            go_simp
            generalize (w3x.alloc (.cells #[.int .i64 0, .int .i64 0, .int .i64 0, .int .i64 0, .int .i64 0, .int .i64 0, .int .i64 0, .int .i64 0, .slice none 0 0] 30)) = V3 at F3 BA O2 ⊢
            refine hK.out _ _ ?_ (fun hHeld2 => ?_)
            · exact ⟨cell_later BA hHeld.1, cell_later BA hHeld.2.1, cell_later BA hHeld.2.2⟩
            clear hK K hHeld BA
            have hHeld := hHeld2
            clear hHeld2
            try simp only [Act.put, List.setIfInBounds_toArray, List.set_cons_zero, List.set_cons_succ]
            refine wpAnyH_ready (rs := [5]) (by kernel_rfl) (by simp) ?_
            refine AllReadyH.cons (o := ⟨some 114, _, _, _, _, _⟩) rfl (fun K hK => ?_) AllReadyH.nil
            go_simp
            have hbx4 := fun b e => lt_of_heap (F3.out.bx b e).2
            (with_reducible refine (ir _ _ (TabIn.up hT.out (bstep EE.out F3.out.kp) (Nat.le_refl _)) O2.out.read).mono ?_)
            rintro e w4x ⟨g4, c4, a4, m4, d4, rfl, R4, hb⟩
            unfold env
            have R4 := Lib.hid R4
            have F4 := Lib.hid (F3.out.low hb)
            clear O2 
            go_wp2_with fail
            refine hK.out _ _ ?_ (fun hHeld2 => ?_)
            · exact ⟨cell_later hb hHeld.1, cell_later hb hHeld.2.1, cell_later hb hHeld.2.2⟩
            clear hK K hHeld hb
            have hHeld := hHeld2
            clear hHeld2
            try simp only [Act.put, List.setIfInBounds_toArray, List.set_cons_zero, List.set_cons_succ]
            refine wpAnyH_take (i := 6) (oi := ⟨some 108, _, _, _, _, _⟩) (v := ?_) rfl (by kernel_rfl) (by kernel_rfl) (by kernel_rfl) (fun _ _ _ h => h) (Or.inl ⟨by rfl, ?_⟩) (by assumption) ?_
            rotate_left 1
            · intro w hSw; (try dsimp only at hSw); go_simp; try (with_reducible rfl)
            try simp only [Act.put, List.setIfInBounds_toArray, List.set_cons_zero, List.set_cons_succ]
            refine wpAnyH_take (i := 7) (oi := ⟨some 115, _, _, _, _, _⟩) (v := ?_) rfl (by kernel_rfl) (by kernel_rfl) (by kernel_rfl) (fun _ _ _ h => h) (Or.inl ⟨by rfl, ?_⟩) (by assumption) ?_
            rotate_left 1
            · intro w hSw; (try dsimp only at hSw); go_simp; try (with_reducible rfl)
            try simp only [Act.put, List.setIfInBounds_toArray, List.set_cons_zero, List.set_cons_succ]
            refine wpAnyH_take (i := 8) (oi := ⟨some 116, _, _, _, _, _⟩) (v := ?_) rfl (by kernel_rfl) (by kernel_rfl) (by kernel_rfl) (fun _ _ _ h => h) (Or.inl ⟨by rfl, ?_⟩) (by assumption) ?_
            rotate_left 1
            · intro w hSw; (try dsimp only at hSw); go_simp; try (with_reducible rfl)
            try simp only [Act.put, List.setIfInBounds_toArray, List.set_cons_zero, List.set_cons_succ]
            refine wpAnyH_take (i := 9) (oi := ⟨some 117, _, _, _, _, _⟩) (v := ?_) rfl (by kernel_rfl) (by kernel_rfl) (by kernel_rfl) (fun _ _ _ h => h) (Or.inl ⟨by rfl, ?_⟩) (by assumption) ?_
            rotate_left 1
            · intro w hSw; (try dsimp only at hSw); go_simp; try (with_reducible rfl)
            try simp only [Act.put, List.setIfInBounds_toArray, List.set_cons_zero, List.set_cons_succ]
            obtain ⟨g0, g1⟩ := F4.out.bx _ rfl
            obtain ⟨⟨n0, n1, n2, n3, n4, n5, n6, n7, n8⟩, ⟨m0, m1, m2, m3, m4, m5, m6, m7, m8⟩, hxl⟩ := nine_all g1
            have hY := F4.out.doneP (q := q) R4.out (by intro h; have := hbx4 _ rfl; have := h.1; omega)
            have hYB : Below wn.heap.size wn _ := (by obtain ⟨_, _, _, _, _, _, _, _, _, _, _, _, _, h⟩ := hY; exact h)
            have hY := Lib.hid hY
            have hYB := Lib.hid hYB
            clear R4 hbx4
            refine wpAnyH_take (i := 11) (oi := ⟨some 18, _, _, _, _, _⟩) (v := ?_) rfl (by kernel_rfl) (by kernel_rfl) (by kernel_rfl) (fun _ _ _ h => h) (Or.inl ⟨by rfl, ?_⟩) (by assumption) ?_
            rotate_left 1
            · intro w hSw; (try dsimp only at hSw); go_simp; try (with_reducible rfl)
            try simp only [Act.put, List.setIfInBounds_toArray, List.set_cons_zero, List.set_cons_succ]
            refine wpAnyH_ready (rs := [12]) (by kernel_rfl) (by simp) ?_
            refine AllReadyH.cons (o := ⟨none, _, _, _, _, _⟩) rfl (fun K hK => ?_) AllReadyH.nil
            go_simp
            refine hK.out _ _ ?_ (fun hHeld2 => ?_)
            · exact ⟨cell_later hYB.out i0, cell_later hYB.out i1, cell_later hYB.out i2⟩
            clear hK K hHeld F4 n0 n1 n2 n3 n4 n5 n6 n7 n8 m0 m1 m2 m3 m4 m5 m6 m7 m8 g0 g1
            have hHeld := hHeld2
            clear hHeld2
            try simp only [Act.put, List.setIfInBounds_toArray, List.set_cons_zero, List.set_cons_succ]
            refine wpAnyH_take (i := 13) (oi := ⟨some 20, _, _, _, _, _⟩) (v := ?_) rfl (by kernel_rfl) (by kernel_rfl) (by kernel_rfl) (fun _ _ _ h => h) (Or.inl ⟨by rfl, ?_⟩) (by assumption) ?_
            rotate_left 1
            · intro w hSw; (try dsimp only at hSw); go_simp; try (with_reducible rfl)
            try simp only [Act.put, List.setIfInBounds_toArray, List.set_cons_zero, List.set_cons_succ]
            refine wpAnyH_done (by kernel_rfl) ?_ _
            try simp only [Act.put, List.setIfInBounds_toArray, List.set_cons_zero, List.set_cons_succ]
            go_wp2_with fail
            go_meet
            exact hY
          refine AllReadyH.cons (o := ⟨some 19, _, _, _, _, _⟩) rfl (fun K hK => ?_) AllReadyH.nil
          have F2 := Lib.hid F1.out.box
          have BA := (Below.refl w2x.heap.size w2x).alloc (Nat.le_refl _) (.cells #[.int .i64 0, .int .i64 0, .int .i64 0, .int .i64 0, .int .i64 0, .int .i64 0, .int .i64 0, .int .i64 0, .slice none 0 0] 30)
          replace O2 := Lib.hid (O2.out.up BA)
          go_simp
          generalize (w2x.alloc (.cells #[.int .i64 0, .int .i64 0, .int .i64 0, .int .i64 0, .int .i64 0, .int .i64 0, .int .i64 0, .int .i64 0, .slice none 0 0] 30)) = V2 at F2 BA O2 ⊢
          refine hK.out _ _ ?_ (fun hHeld2 => ?_)
          · exact ⟨cell_later BA hHeld.1, cell_later BA hHeld.2.1, cell_later BA hHeld.2.2⟩
          clear hK K hHeld BA
          have hHeld := hHeld2
          clear hHeld2
          try simp only [Act.put, List.setIfInBounds_toArray, List.set_cons_zero, List.set_cons_succ]
          refine wpAnyH_ready (rs := [4]) (by kernel_rfl) (by simp) ?_
          refine AllReadyH.cons (o := ⟨some 113, _, _, _, _, _⟩) rfl (fun K hK => ?_) AllReadyH.nil
          go_simp
          (with_reducible refine (tc _).mono ?_)
          rintro e w3x ⟨rfl, hb⟩
          replace O2 := Lib.hid (O2.out.up hb)
          have F3 := Lib.hid (F2.out.low hb)
          go_wp2_with fail
          refine hK.out _ _ ?_ (fun hHeld2 => ?_)
          · exact ⟨cell_later hb hHeld.1, cell_later hb hHeld.2.1, cell_later hb hHeld.2.2⟩
          clear hK K hHeld hb
          have hHeld := hHeld2
          clear hHeld2
          try simp only [Act.put, List.setIfInBounds_toArray, List.set_cons_zero, List.set_cons_succ]
          refine wpAnyH_ready (rs := [5]) (by kernel_rfl) (by simp) ?_
          refine AllReadyH.cons (o := ⟨some 114, _, _, _, _, _⟩) rfl (fun K hK => ?_) AllReadyH.nil
          go_simp
          have hbx4 := fun b e => lt_of_heap (F3.out.bx b e).2
          (with_reducible refine (ir _ _ (TabIn.up hT.out (bstep EE.out F3.out.kp) (Nat.le_refl _)) O2.out.read).mono ?_)
          rintro e w4x ⟨g4, c4, a4, m4, d4, rfl, R4, hb⟩
          unfold env
          have R4 := Lib.hid R4
          have F4 := Lib.hid (F3.out.low hb)
          clear O2 
          go_wp2_with fail
          refine hK.out _ _ ?_ (fun hHeld2 => ?_)
          · exact ⟨cell_later hb hHeld.1, cell_later hb hHeld.2.1, cell_later hb hHeld.2.2⟩
          clear hK K hHeld hb
          have hHeld := hHeld2
          clear hHeld2
          try simp only [Act.put, List.setIfInBounds_toArray, List.set_cons_zero, List.set_cons_succ]
          refine wpAnyH_take (i := 6) (oi := ⟨some 108, _, _, _, _, _⟩) (v := ?_) rfl (by kernel_rfl) (by kernel_rfl) (by kernel_rfl) (fun _ _ _ h => h) (Or.inl ⟨by rfl, ?_⟩) (by assumption) ?_
          rotate_left 1
          · intro w hSw; (try dsimp only at hSw); go_simp; try (with_reducible rfl)
          try simp only [Act.put, List.setIfInBounds_toArray, List.set_cons_zero, List.set_cons_succ]
          refine wpAnyH_take (i := 7) (oi := ⟨some 115, _, _, _, _, _⟩) (v := ?_) rfl (by kernel_rfl) (by kernel_rfl) (by kernel_rfl) (fun _ _ _ h => h) (Or.inl ⟨by rfl, ?_⟩) (by assumption) ?_
          rotate_left 1
          · intro w hSw; (try dsimp only at hSw); go_simp; try (with_reducible rfl)
          try simp only [Act.put, List.setIfInBounds_toArray, List.set_cons_zero, List.set_cons_succ]
          refine wpAnyH_take (i := 8) (oi := ⟨some 116, _, _, _, _, _⟩) (v := ?_) rfl (by kernel_rfl) (by kernel_rfl) (by kernel_rfl) (fun _ _ _ h => h) (Or.inl ⟨by rfl, ?_⟩) (by assumption) ?_
          rotate_left 1
          · intro w hSw; (try dsimp only at hSw); go_simp; try (with_reducible rfl)
          try simp only [Act.put, List.setIfInBounds_toArray, List.set_cons_zero, List.set_cons_succ]
          refine wpAnyH_take (i := 9) (oi := ⟨some 117, _, _, _, _, _⟩) (v := ?_) rfl (by kernel_rfl) (by kernel_rfl) (by kernel_rfl) (fun _ _ _ h => h) (Or.inl ⟨by rfl, ?_⟩) (by assumption) ?_
          rotate_left 1
          · intro w hSw; (try dsimp only at hSw); go_simp; try (with_reducible rfl)
          try simp only [Act.put, List.setIfInBounds_toArray, List.set_cons_zero, List.set_cons_succ]
          obtain ⟨g0, g1⟩ := F4.out.bx _ rfl
          obtain ⟨⟨n0, n1, n2, n3, n4, n5, n6, n7, n8⟩, ⟨m0, m1, m2, m3, m4, m5, m6, m7, m8⟩, hxl⟩ := nine_all g1
          have hY := F4.out.doneP (q := q) R4.out (by intro h; have := hbx4 _ rfl; have := h.1; omega)
          have hYB : Below wn.heap.size wn _ := (by obtain ⟨_, _, _, _, _, _, _, _, _, _, _, _, _, h⟩ := hY; exact h)
          have hY := Lib.hid hY
          have hYB := Lib.hid hYB
          clear R4 hbx4
          refine wpAnyH_take (i := 11) (oi := ⟨some 18, _, _, _, _, _⟩) (v := ?_) rfl (by kernel_rfl) (by kernel_rfl) (by kernel_rfl) (fun _ _ _ h => h) (Or.inl ⟨by rfl, ?_⟩) (by assumption) ?_
          rotate_left 1
          · intro w hSw; (try dsimp only at hSw); go_simp; try (with_reducible rfl)
          try simp only [Act.put, List.setIfInBounds_toArray, List.set_cons_zero, List.set_cons_succ]
          refine wpAnyH_ready (rs := [12]) (by kernel_rfl) (by simp) ?_
          refine AllReadyH.cons (o := ⟨none, _, _, _, _, _⟩) rfl (fun K hK => ?_) AllReadyH.nil
          go_simp
          refine hK.out _ _ ?_ (fun hHeld2 => ?_)
          · exact ⟨cell_later hYB.out i0, cell_later hYB.out i1, cell_later hYB.out i2⟩
          clear hK K hHeld F4 n0 n1 n2 n3 n4 n5 n6 n7 n8 m0 m1 m2 m3 m4 m5 m6 m7 m8 g0 g1
          have hHeld := hHeld2
          clear hHeld2
          try simp only [Act.put, List.setIfInBounds_toArray, List.set_cons_zero, List.set_cons_succ]
          refine wpAnyH_take (i := 13) (oi := ⟨some 20, _, _, _, _, _⟩) (v := ?_) rfl (by kernel_rfl) (by kernel_rfl) (by kernel_rfl) (fun _ _ _ h => h) (Or.inl ⟨by rfl, ?_⟩) (by assumption) ?_
          rotate_left 1
          · intro w hSw; (try dsimp only at hSw); go_simp; try (with_reducible rfl)
          try simp only [Act.put, List.setIfInBounds_toArray, List.set_cons_zero, List.set_cons_succ]
          refine wpAnyH_done (by kernel_rfl) ?_ _
          try simp only [Act.put, List.setIfInBounds_toArray, List.set_cons_zero, List.set_cons_succ]
          go_wp2_with fail
          go_meet
          exact hY
        refine AllReadyH.cons (o := ⟨some 19, _, _, _, _, _⟩) rfl (fun K hK => ?_) AllReadyH.nil
        have F1 := Lib.hid F0.out.box
        have BA := (Below.refl V0.heap.size V0).alloc (Nat.le_refl _) (.cells #[.int .i64 0, .int .i64 0, .int .i64 0, .int .i64 0, .int .i64 0, .int .i64 0, .int .i64 0, .int .i64 0, .slice none 0 0] 30)
        go_simp
        generalize (V0.alloc (.cells #[.int .i64 0, .int .i64 0, .int .i64 0, .int .i64 0, .int .i64 0, .int .i64 0, .int .i64 0, .int .i64 0, .slice none 0 0] 30)) = V1 at F1 BA  ⊢
        refine hK.out _ _ ?_ (fun hHeld2 => ?_)
        · exact ⟨cell_later BA hHeld.1, cell_later BA hHeld.2.1, cell_later BA hHeld.2.2⟩
        clear hK K hHeld BA
        have hHeld := hHeld2
        clear hHeld2
        try simp only [Act.put, List.setIfInBounds_toArray, List.set_cons_zero, List.set_cons_succ]
        refine wpAnyH_ready (rs := [1]) (by kernel_rfl) (by simp) ?_
        refine AllReadyH.cons (o := ⟨some 110, _, _, _, _, _⟩) rfl (fun K hK => ?_) AllReadyH.nil
        go_simp
        (with_reducible refine (te _ (bstep EE.out F1.out.kp)).mono ?_)
        rintro e w2x ⟨u2, rfl, O2, hb⟩
        have O2 := Lib.hid O2
        have F2 := Lib.hid (F1.out.low hb)
        go_wp2_with fail
        refine hK.out _ _ ?_ (fun hHeld2 => ?_)
        · exact ⟨cell_later hb hHeld.1, cell_later hb hHeld.2.1, cell_later hb hHeld.2.2⟩
        clear hK K hHeld hb
        have hHeld := hHeld2
        clear hHeld2
        try simp only [Act.put, List.setIfInBounds_toArray, List.set_cons_zero, List.set_cons_succ]
        refine wpAnyH_ready (rs := [4]) (by kernel_rfl) (by simp) ?_
        refine AllReadyH.cons (o := ⟨some 113, _, _, _, _, _⟩) rfl (fun K hK => ?_) AllReadyH.nil
        go_simp
        (with_reducible refine (tc _).mono ?_)
        rintro e w3x ⟨rfl, hb⟩
        replace O2 := Lib.hid (O2.out.up hb)
        have F3 := Lib.hid (F2.out.low hb)
        go_wp2_with fail
        refine hK.out _ _ ?_ (fun hHeld2 => ?_)
        · exact ⟨cell_later hb hHeld.1, cell_later hb hHeld.2.1, cell_later hb hHeld.2.2⟩
        clear hK K hHeld hb
        have hHeld := hHeld2
        clear hHeld2
        try simp only [Act.put, List.setIfInBounds_toArray, List.set_cons_zero, List.set_cons_succ]
        refine wpAnyH_ready (rs := [5]) (by kernel_rfl) (by simp) ?_
        refine AllReadyH.cons (o := ⟨some 114, _, _, _, _, _⟩) rfl (fun K hK => ?_) AllReadyH.nil
        go_simp
        have hbx4 := fun b e => lt_of_heap (F3.out.bx b e).2
        (with_reducible refine (ir _ _ (TabIn.up hT.out (bstep EE.out F3.out.kp) (Nat.le_refl _)) O2.out.read).mono ?_)
        rintro e w4x ⟨g4, c4, a4, m4, d4, rfl, R4, hb⟩
        unfold env
        have R4 := Lib.hid R4
        have F4 := Lib.hid (F3.out.low hb)
        clear O2 
        go_wp2_with fail
        refine hK.out _ _ ?_ (fun hHeld2 => ?_)
        · exact ⟨cell_later hb hHeld.1, cell_later hb hHeld.2.1, cell_later hb hHeld.2.2⟩
        clear hK K hHeld hb
        have hHeld := hHeld2
        clear hHeld2
        try simp only [Act.put, List.setIfInBounds_toArray, List.set_cons_zero, List.set_cons_succ]
        refine wpAnyH_take (i := 6) (oi := ⟨some 108, _, _, _, _, _⟩) (v := ?_) rfl (by kernel_rfl) (by kernel_rfl) (by kernel_rfl) (fun _ _ _ h => h) (Or.inl ⟨by rfl, ?_⟩) (by assumption) ?_
        rotate_left 1
        · intro w hSw; (try dsimp only at hSw); go_simp; try (with_reducible rfl)
        try simp only [Act.put, List.setIfInBounds_toArray, List.set_cons_zero, List.set_cons_succ]
        refine wpAnyH_take (i := 7) (oi := ⟨some 115, _, _, _, _, _⟩) (v := ?_) rfl (by kernel_rfl) (by kernel_rfl) (by kernel_rfl) (fun _ _ _ h => h) (Or.inl ⟨by rfl, ?_⟩) (by assumption) ?_
        rotate_left 1
        · intro w hSw; (try dsimp only at hSw); go_simp; try (with_reducible rfl)
        try simp only [Act.put, List.setIfInBounds_toArray, List.set_cons_zero, List.set_cons_succ]
        refine wpAnyH_take (i := 8) (oi := ⟨some 116, _, _, _, _, _⟩) (v := ?_) rfl (by kernel_rfl) (by kernel_rfl) (by kernel_rfl) (fun _ _ _ h => h) (Or.inl ⟨by rfl, ?_⟩) (by assumption) ?_
        rotate_left 1
        · intro w hSw; (try dsimp only at hSw); go_simp; try (with_reducible rfl)
        try simp only [Act.put, List.setIfInBounds_toArray, List.set_cons_zero, List.set_cons_succ]
        refine wpAnyH_take (i := 9) (oi := ⟨some 117, _, _, _, _, _⟩) (v := ?_) rfl (by kernel_rfl) (by kernel_rfl) (by kernel_rfl) (fun _ _ _ h => h) (Or.inl ⟨by rfl, ?_⟩) (by assumption) ?_
        rotate_left 1
        · intro w hSw; (try dsimp only at hSw); go_simp; try (with_reducible rfl)
        try simp only [Act.put, List.setIfInBounds_toArray, List.set_cons_zero, List.set_cons_succ]
        obtain ⟨g0, g1⟩ := F4.out.bx _ rfl
        obtain ⟨⟨n0, n1, n2, n3, n4, n5, n6, n7, n8⟩, ⟨m0, m1, m2, m3, m4, m5, m6, m7, m8⟩, hxl⟩ := nine_all g1
        have hY := F4.out.doneP (q := q) R4.out (by intro h; have := hbx4 _ rfl; have := h.1; omega)
        have hYB : Below wn.heap.size wn _ := (by obtain ⟨_, _, _, _, _, _, _, _, _, _, _, _, _, h⟩ := hY; exact h)
        have hY := Lib.hid hY
        have hYB := Lib.hid hYB
        clear R4 hbx4
        refine wpAnyH_take (i := 11) (oi := ⟨some 18, _, _, _, _, _⟩) (v := ?_) rfl (by kernel_rfl) (by kernel_rfl) (by kernel_rfl) (fun _ _ _ h => h) (Or.inl ⟨by rfl, ?_⟩) (by assumption) ?_
        rotate_left 1
        · intro w hSw; (try dsimp only at hSw); go_simp; try (with_reducible rfl)
        try simp only [Act.put, List.setIfInBounds_toArray, List.set_cons_zero, List.set_cons_succ]
        refine wpAnyH_ready (rs := [12]) (by kernel_rfl) (by simp) ?_
        refine AllReadyH.cons (o := ⟨none, _, _, _, _, _⟩) rfl (fun K hK => ?_) AllReadyH.nil
        go_simp
        refine hK.out _ _ ?_ (fun hHeld2 => ?_)
        · exact ⟨cell_later hYB.out i0, cell_later hYB.out i1, cell_later hYB.out i2⟩
        clear hK K hHeld F4 n0 n1 n2 n3 n4 n5 n6 n7 n8 m0 m1 m2 m3 m4 m5 m6 m7 m8 g0 g1
        have hHeld := hHeld2
        clear hHeld2
        try simp only [Act.put, List.setIfInBounds_toArray, List.set_cons_zero, List.set_cons_succ]
        refine wpAnyH_take (i := 13) (oi := ⟨some 20, _, _, _, _, _⟩) (v := ?_) rfl (by kernel_rfl) (by kernel_rfl) (by kernel_rfl) (fun _ _ _ h => h) (Or.inl ⟨by rfl, ?_⟩) (by assumption) ?_
        rotate_left 1
        · intro w hSw; (try dsimp only at hSw); go_simp; try (with_reducible rfl)
        try simp only [Act.put, List.setIfInBounds_toArray, List.set_cons_zero, List.set_cons_succ]
        refine wpAnyH_done (by kernel_rfl) ?_ _
        try simp only [Act.put, List.setIfInBounds_toArray, List.set_cons_zero, List.set_cons_succ]
        go_wp2_with fail
        go_meet
        exact hY
      case rest =>
        obtain ⟨xb14, g14, c14, a14, m14, d14, rfl, rfl, rfl, X14, N14, I14, _, E14⟩ := hcut.out
        have X14 := Lib.hid X14
        have N14 := Lib.hid N14
        have I14 := Lib.hid I14
        replace K := Lib.hid (bstep K.out E14)
        replace X9 := Lib.hid (X9.out.up E14)
        replace M9 := Lib.hid (M9.out.up E14)
        replace O9 := Lib.hid (O9.out.up E14)
        clear hcut E14 i0 i1 i2 EE hIn hiln
        go_wp2_with fail
        refine (eqEs_any _ _ N _ N14.out (N5.out.up K.out (Nat.le_refl _))).mono ?_
        rintro e w30 ⟨rfl, B⟩
        replace K := Lib.hid (bstep K.out B)
        replace X9 := Lib.hid (X9.out.up B)
        replace M9 := Lib.hid (M9.out.up B)
        replace O9 := Lib.hid (O9.out.up B)
        replace X14 := Lib.hid (X14.out.up B)
        replace I14 := Lib.hid (I14.out.up B (Nat.le_refl _))
        clear B N14
        have X5c := X5.out.up K.out
        obtain ⟨⟨p0, p1, p2, p3, p4, p5, p6, p7, p8⟩, pl⟩ := X5c.cells
        obtain ⟨⟨r0, r1, r2, r3, r4, r5, r6, r7, r8⟩, rl⟩ := X14.out.cells
        go_wp2_with fail
        refine (eqE_any Y _ _ _ I14.out (I5.out.up K.out (Nat.le_refl _))).mono ?_
        rintro e w31 ⟨rfl, B⟩
        clear p0 p1 p2 p3 p4 p5 p6 p7 p8 pl r0 r1 r2 r3 r4 r5 r6 r7 r8 rl X5c
        replace K := Lib.hid (bstep K.out B)
        replace X9 := Lib.hid (X9.out.up B)
        replace M9 := Lib.hid (M9.out.up B)
        replace O9 := Lib.hid (O9.out.up B)
        clear B X14 I14
        have hl31 := heldL_any _ _ _ N 1 _ M9.out hN12 hNd.out (by omega) (by omega)
        rw [hkk.out] at hl31
        go_wp2_with fail
        refine hl31.mono ?_
        rintro e w32 ⟨rfl, B⟩
        replace K := Lib.hid (bstep K.out B)
        replace X9 := Lib.hid (X9.out.up B)
        replace O9 := Lib.hid (O9.out.up B)
        clear B hl31
        obtain ⟨⟨r0, r1, r2, r3, r4, r5, r6, r7, r8⟩, rl⟩ := X9.out.cells
        have he := heldE_z Y (.slice va9 vn9 vc9) kk M _ hMk.out O9.out.read (by omega) (by omega)
        rw [hM.out] at he
        unfold env at he
        go_wp2_with fail
        refine he.mono ?_
        rintro e w33 ⟨rfl, B⟩
        have D9 := Lib.hid (bstep D1.out (bstep E5.out (bstep K.out B)))
        clear r0 r1 r2 r3 r4 r5 r6 r7 r8 rl B he
        go_wp2_with fail
        go_ret
        exact ⟨rfl, D9.out⟩
end Go.Proofs.YtdikcenhakfheaaGreatDoor
