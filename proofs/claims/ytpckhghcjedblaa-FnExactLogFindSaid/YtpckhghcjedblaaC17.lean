/- Texts laid together. -/
import Derived.Test.YtpckhghcjedblaaC15
import Derived.Test.YtpckhghcjedblaaC16
import Derived.Test.YtpckhghcjedblaaC12
import Derived.Test.YtpckhghcjedblaaC11
import Derived.Deep.DeepCutAuto
import Derived.Deep.CutBlock
/- The walk of FnExactLogFind. -/
namespace Go.Proofs.Ytpckhghcjedblaa
open Go.RowKit
set_option linter.unusedVariables false

theorem LEs.up {w w' : World} {B : Nat} {a : Option Addr} {len cap : Nat} (h : LEs w a len cap) (hb : Below B w w') (hB : w.heap.size ≤ B) : LEs w' a len cap := by
  obtain ⟨h1, h2, h3⟩ := h
  refine ⟨h1, h2, ?_⟩
  rcases h3 with h3 | ⟨b, off, rfl, hl, hc⟩
  · exact .inl h3
  · refine .inr ⟨b, off, rfl, Nat.lt_of_lt_of_le hl hb.size, fun i hi => ?_⟩
    obtain ⟨x, ua, un, uc, e0, e1, e2, e3, e4, e5, e6, e7, e8, e9, e10⟩ := hc i hi
    have hcc : ∀ o, w'.cell? ⟨b, o, none⟩ = w.cell? ⟨b, o, none⟩ := fun o => hb.cell (p := ⟨b, o, none⟩) (Nat.lt_of_lt_of_le hl hB)
    exact ⟨x, ua, un, uc, by rw [hcc]; exact e0, by rw [hcc]; exact e1, by rw [hcc]; exact e2, by rw [hcc]; exact e3, by rw [hcc]; exact e4, by rw [hcc]; exact e5, by rw [hcc]; exact e6, by rw [hcc]; exact e7, by rw [hcc]; exact e8, e9, e10.imp id fun ⟨C, hC⟩ => ⟨C, hC.up hb hB⟩⟩

set_option maxRecDepth 100000 in
set_option maxHeartbeats 16000000 in
theorem exLogFind_any (a : Option Addr) (len cap : Nat) (x y : Int) (w : World) (h : LEs w a len cap) (ha : inR (x, y)) :
    Calls Try.prog 9 #[.slice a len cap, .agg #[.int .i64 x, .int .i64 y]] w fun e w' => e = .returned (.bool true) ∧ Below w.heap.size w w' := by
  have D0 := (Below.refl w.heap.size w).alloc (Nat.le_refl _) (.cells #[.int .i64 x, .int .i64 y] 50)
  have sz := szEs_any a len cap _ (h.up D0 (Nat.le_refl _))
  have hI := Lib.hid (heap_alloc_new w (.cells #[.int .i64 x, .int .i64 y] 50))
  have D0 := Lib.hid D0
  clear h
  go_enter Try.func9, Try.ntmps9
  go_wp2_with fail
  refine sz.mono ?_
  rintro e w1 ⟨⟨z, rfl, hz⟩, B⟩
  have D1 := Lib.hid (bstep D0.out B)
  have hI := Lib.hid (bblk B (by simp) hI.out)
  rcases hz with rfl | ⟨hz0, E, hEl, hE⟩
  · clear B sz D0
    go_wp2_with fail
    go_ret
    exact ⟨rfl, D1.out⟩
  · have hz1 : ¬ z < 0 := by omega
    have hE := Lib.hid (hE.up B (Nat.le_refl _))
    obtain ⟨⟨X, q⟩, hR⟩ : ∃ r, lfindR E (x, y) = r := ⟨_, rfl⟩
    have te := fun W (hb : Below w1.heap.size w1 W) => toEs_any _ E W (hE.out.up hb (Nat.le_refl _))
    have sv := fun u W (H : Ens W u E) => slfind_any u E x y W H
    have iv := fun u W (H : Ens W u E) => ilfind_any u E x y W H ha
    unfold LfP at sv iv
    unfold EnsCPost at te
    rw [hR] at sv iv
    dsimp only at sv iv
    unfold env at sv iv
    obtain ⟨ib, hib⟩ : ∃ c, Hid (w.heap.size = c) := ⟨_, Lib.hid rfl⟩
    rw [hib.out] at hI ⊢
    have hil := lt_of_heap hI.out
    obtain ⟨i0, i1, _, _⟩ := blk2 hI.out
    have E0 := Lib.hid (Below.refl w1.heap.size w1)
    clear B sz D0 hE hR hEl
    go_upto_region 5 with fail
    go_cut [6, 7] from 21 to 28 (fun s6 s7 wx => Hid (LfQ X q w1 s6 s7 wx))
    case first =>
      have F0 := Lib.hid (FE.start (w0 := w1))
      refine wp_region_held_drew (S := fun w' => w'.cell? ⟨ib, 0, none⟩ = some (.int .i64 x) ∧ w'.cell? ⟨ib, 1, none⟩ = some (.int .i64 y)) (by kernel_rfl) ⟨i0, i1⟩ (fun hHeld => ?_)
      generalize w1.drew = V0 at F0 hHeld ⊢
      refine wpAnyH_take (i := 0) (oi := ⟨some 22, _, _, _, _, _⟩) (v := ?_) rfl (by kernel_rfl) (by kernel_rfl) (by kernel_rfl) (fun _ _ _ h => h) (Or.inl ⟨by rfl, ?_⟩) (by assumption) ?_
      rotate_left 1
      · intro w hSw; (try dsimp only at hSw); go_simp; try (with_reducible rfl)
      try simp only [Act.put, List.setIfInBounds_toArray, List.set_cons_zero, List.set_cons_succ]
      refine wpAnyH_take (i := 2) (oi := ⟨some 24, _, _, _, _, _⟩) (v := ?_) rfl (by kernel_rfl) (by kernel_rfl) (by kernel_rfl) (fun _ _ _ h => h) (Or.inl ⟨by rfl, ?_⟩) (by assumption) ?_
      rotate_left 1
      · intro w hSw; (try dsimp only at hSw); go_simp; try (with_reducible rfl)
      try simp only [Act.put, List.setIfInBounds_toArray, List.set_cons_zero, List.set_cons_succ]
      refine wpAnyH_ready (rs := [1, 8]) (by kernel_rfl) (by simp) ?_
      refine AllReadyH.cons (o := ⟨some 23, _, _, _, _, _⟩) rfl (fun K hK => ?_) ?_
      · go_simp
        (with_reducible refine (te _ (bstep E0.out F0.out.kp)).mono ?_)
        rintro e w2x ⟨u2, rfl, O2, hb⟩
        have O2 := Lib.hid O2
        have F1 := Lib.hid (F0.out.low hb)
        go_wp2_with fail
        refine hK.out _ _ ?_ (fun hHeld2 => ?_)
        · exact ⟨cell_later hb hHeld.1, cell_later hb hHeld.2⟩
        clear hK K hHeld hb
        have hHeld := hHeld2
        clear hHeld2
        try simp only [Act.put, List.setIfInBounds_toArray, List.set_cons_zero, List.set_cons_succ]
        refine wpAnyH_ready (rs := [3, 8]) (by kernel_rfl) (by simp) ?_
        refine AllReadyH.cons (o := ⟨some 25, _, _, _, _, _⟩) rfl (fun K hK => ?_) ?_
        · go_simp
          (with_reducible refine (toId_any x y _).mono ?_)
          rintro e w3x ⟨rfl, hb⟩
          replace O2 := Lib.hid (O2.out.up hb)
          have F2 := Lib.hid (F1.out.low hb)
          go_wp2_with fail
          refine hK.out _ _ ?_ (fun hHeld2 => ?_)
          · exact ⟨cell_later hb hHeld.1, cell_later hb hHeld.2⟩
          clear hK K hHeld hb
          have hHeld := hHeld2
          clear hHeld2
          try simp only [Act.put, List.setIfInBounds_toArray, List.set_cons_zero, List.set_cons_succ]
          refine wpAnyH_ready (rs := [4, 8]) (by kernel_rfl) (by simp) ?_
          refine AllReadyH.cons (o := ⟨some 26, _, _, _, _, _⟩) rfl (fun K hK => ?_) ?_
          · go_simp
            have hsz4 := F2.out.kp.size
            have hbx4 := fun b e => lt_of_heap (F2.out.bx b e).2
            (with_reducible refine (sv _ _ O2.out.read).mono ?_)
            rintro e w4x ⟨u4, rfl, O4, hb⟩
            obtain ⟨va, vn, vc, rfl⟩ : ∃ ua un uc, u4 = .slice ua un uc := by obtain ⟨a, c, e, _⟩ := O4.read; exact ⟨a, _, c, e⟩
            have O4 := Lib.hid O4
            have F3 := Lib.hid (F2.out.low hb)
            have hszA := Nat.le_refl w4x.heap.size
            clear O2
            go_wp2_with fail
            refine hK.out _ _ ?_ (fun hHeld2 => ?_)
            · exact ⟨cell_later hb hHeld.1, cell_later hb hHeld.2⟩
            clear hK K hHeld hb
            have hHeld := hHeld2
            clear hHeld2
            try simp only [Act.put, List.setIfInBounds_toArray, List.set_cons_zero, List.set_cons_succ]
            refine wpAnyH_take (i := 5) (oi := ⟨some 21, _, _, _, _, _⟩) (v := ?_) rfl (by kernel_rfl) (by kernel_rfl) (by kernel_rfl) (fun _ _ _ h => h) (Or.inl ⟨by rfl, ?_⟩) (by assumption) ?_
            rotate_left 1
            · intro w hSw; (try dsimp only at hSw); go_simp; try (with_reducible rfl)
            try simp only [Act.put, List.setIfInBounds_toArray, List.set_cons_zero, List.set_cons_succ]
            refine wpAnyH_take (i := 6) (oi := ⟨some 27, _, _, _, _, _⟩) (v := ?_) rfl (by kernel_rfl) (by kernel_rfl) (by kernel_rfl) (fun _ _ _ h => h) (Or.inl ⟨by rfl, ?_⟩) (by assumption) ?_
            rotate_left 1
            · intro w hSw; (try dsimp only at hSw); go_simp; try (with_reducible rfl)
            try simp only [Act.put, List.setIfInBounds_toArray, List.set_cons_zero, List.set_cons_succ]
            refine wpAnyH_take (i := 7) (oi := ⟨some 28, _, _, _, _, _⟩) (v := ?_) rfl (by kernel_rfl) (by kernel_rfl) (by kernel_rfl) (fun _ _ _ h => h) (Or.inl ⟨by rfl, ?_⟩) (by assumption) ?_
            rotate_left 1
            · intro w hSw; (try dsimp only at hSw); go_simp; try (with_reducible rfl)
            try simp only [Act.put, List.setIfInBounds_toArray, List.set_cons_zero, List.set_cons_succ]
            refine wpAnyH_ready (rs := [8]) (by kernel_rfl) (by simp) ?_
            refine AllReadyH.cons (o := ⟨some 6, _, _, _, _, _⟩) rfl (fun K hK => ?_) AllReadyH.nil
            have F4 := Lib.hid F3.out.box
            have BA := (Below.refl w4x.heap.size w4x).alloc (Nat.le_refl _) (.cells #[.int .i64 0, .int .i64 0, .int .i64 0, .int .i64 0, .int .i64 0, .int .i64 0, .int .i64 0, .int .i64 0, .slice none 0 0] 30)
            replace O4 := Lib.hid (O4.out.up BA)
            have hszA := BA.size
            go_simp
            generalize (w4x.alloc (.cells #[.int .i64 0, .int .i64 0, .int .i64 0, .int .i64 0, .int .i64 0, .int .i64 0, .int .i64 0, .int .i64 0, .slice none 0 0] 30)) = V4 at F4 BA O4 hszA ⊢
            refine hK.out _ _ ?_ (fun hHeld2 => ?_)
            · exact ⟨cell_later BA hHeld.1, cell_later BA hHeld.2⟩
            clear hK K hHeld BA
            have hHeld := hHeld2
            clear hHeld2
            try simp only [Act.put, List.setIfInBounds_toArray, List.set_cons_zero, List.set_cons_succ]
            obtain ⟨g0, g1⟩ := F4.out.bx _ rfl
            obtain ⟨⟨n0, n1, n2, n3, n4, n5, n6, n7, n8⟩, ⟨m0, m1, m2, m3, m4, m5, m6, m7, m8⟩, hxl⟩ := nine_all g1
            have hY := F4.out.done (q := q) O4.out hsz4 hszA (by intro h; have := h.2; omega)
            have hYB : Below w1.heap.size w1 _ := (by obtain ⟨_, _, _, _, _, _, _, _, _, _, h⟩ := hY; exact h)
            have hY := Lib.hid hY
            have hYB := Lib.hid hYB
            clear O4 hbx4
            refine wpAnyH_ready (rs := [9]) (by kernel_rfl) (by simp) ?_
            refine AllReadyH.cons (o := ⟨none, _, _, _, _, _⟩) rfl (fun K hK => ?_) AllReadyH.nil
            go_simp
            refine hK.out _ _ ?_ (fun hHeld2 => ?_)
            · exact ⟨cell_later hYB.out i0, cell_later hYB.out i1⟩
            clear hK K hHeld F4 n0 n1 n2 n3 n4 n5 n6 n7 n8 m0 m1 m2 m3 m4 m5 m6 m7 m8 g0 g1
            have hHeld := hHeld2
            clear hHeld2
            try simp only [Act.put, List.setIfInBounds_toArray, List.set_cons_zero, List.set_cons_succ]
            refine wpAnyH_take (i := 10) (oi := ⟨some 7, _, _, _, _, _⟩) (v := ?_) rfl (by kernel_rfl) (by kernel_rfl) (by kernel_rfl) (fun _ _ _ h => h) (Or.inl ⟨by rfl, ?_⟩) (by assumption) ?_
            rotate_left 1
            · intro w hSw; (try dsimp only at hSw); go_simp; try (with_reducible rfl)
            try simp only [Act.put, List.setIfInBounds_toArray, List.set_cons_zero, List.set_cons_succ]
            refine wpAnyH_done (by kernel_rfl) ?_ _
            try simp only [Act.put, List.setIfInBounds_toArray, List.set_cons_zero, List.set_cons_succ]
            go_wp2_with fail
            go_meet
            exact hY
          refine AllReadyH.cons (o := ⟨some 6, _, _, _, _, _⟩) rfl (fun K hK => ?_) AllReadyH.nil
          have F3 := Lib.hid F2.out.box
          have BA := (Below.refl w3x.heap.size w3x).alloc (Nat.le_refl _) (.cells #[.int .i64 0, .int .i64 0, .int .i64 0, .int .i64 0, .int .i64 0, .int .i64 0, .int .i64 0, .int .i64 0, .slice none 0 0] 30)
          replace O2 := Lib.hid (O2.out.up BA)
          go_simp
          generalize (w3x.alloc (.cells #[.int .i64 0, .int .i64 0, .int .i64 0, .int .i64 0, .int .i64 0, .int .i64 0, .int .i64 0, .int .i64 0, .slice none 0 0] 30)) = V3 at F3 BA O2 ⊢
          refine hK.out _ _ ?_ (fun hHeld2 => ?_)
          · exact ⟨cell_later BA hHeld.1, cell_later BA hHeld.2⟩
          clear hK K hHeld BA
          have hHeld := hHeld2
          clear hHeld2
          try simp only [Act.put, List.setIfInBounds_toArray, List.set_cons_zero, List.set_cons_succ]
          refine wpAnyH_ready (rs := [4]) (by kernel_rfl) (by simp) ?_
          refine AllReadyH.cons (o := ⟨some 26, _, _, _, _, _⟩) rfl (fun K hK => ?_) AllReadyH.nil
          go_simp
          have hsz4 := F3.out.kp.size
          have hbx4 := fun b e => lt_of_heap (F3.out.bx b e).2
          (with_reducible refine (sv _ _ O2.out.read).mono ?_)
          rintro e w4x ⟨u4, rfl, O4, hb⟩
          obtain ⟨va, vn, vc, rfl⟩ : ∃ ua un uc, u4 = .slice ua un uc := by obtain ⟨a, c, e, _⟩ := O4.read; exact ⟨a, _, c, e⟩
          have O4 := Lib.hid O4
          have F4 := Lib.hid (F3.out.low hb)
          have hszA := Nat.le_refl w4x.heap.size
          clear O2
          go_wp2_with fail
          refine hK.out _ _ ?_ (fun hHeld2 => ?_)
          · exact ⟨cell_later hb hHeld.1, cell_later hb hHeld.2⟩
          clear hK K hHeld hb
          have hHeld := hHeld2
          clear hHeld2
          try simp only [Act.put, List.setIfInBounds_toArray, List.set_cons_zero, List.set_cons_succ]
          refine wpAnyH_take (i := 5) (oi := ⟨some 21, _, _, _, _, _⟩) (v := ?_) rfl (by kernel_rfl) (by kernel_rfl) (by kernel_rfl) (fun _ _ _ h => h) (Or.inl ⟨by rfl, ?_⟩) (by assumption) ?_
          rotate_left 1
          · intro w hSw; (try dsimp only at hSw); go_simp; try (with_reducible rfl)
          try simp only [Act.put, List.setIfInBounds_toArray, List.set_cons_zero, List.set_cons_succ]
          refine wpAnyH_take (i := 6) (oi := ⟨some 27, _, _, _, _, _⟩) (v := ?_) rfl (by kernel_rfl) (by kernel_rfl) (by kernel_rfl) (fun _ _ _ h => h) (Or.inl ⟨by rfl, ?_⟩) (by assumption) ?_
          rotate_left 1
          · intro w hSw; (try dsimp only at hSw); go_simp; try (with_reducible rfl)
          try simp only [Act.put, List.setIfInBounds_toArray, List.set_cons_zero, List.set_cons_succ]
          refine wpAnyH_take (i := 7) (oi := ⟨some 28, _, _, _, _, _⟩) (v := ?_) rfl (by kernel_rfl) (by kernel_rfl) (by kernel_rfl) (fun _ _ _ h => h) (Or.inl ⟨by rfl, ?_⟩) (by assumption) ?_
          rotate_left 1
          · intro w hSw; (try dsimp only at hSw); go_simp; try (with_reducible rfl)
          try simp only [Act.put, List.setIfInBounds_toArray, List.set_cons_zero, List.set_cons_succ]
          obtain ⟨g0, g1⟩ := F4.out.bx _ rfl
          obtain ⟨⟨n0, n1, n2, n3, n4, n5, n6, n7, n8⟩, ⟨m0, m1, m2, m3, m4, m5, m6, m7, m8⟩, hxl⟩ := nine_all g1
          have hY := F4.out.done (q := q) O4.out hsz4 hszA (by intro h; have := hbx4 _ rfl; have := h.1; omega)
          have hYB : Below w1.heap.size w1 _ := (by obtain ⟨_, _, _, _, _, _, _, _, _, _, h⟩ := hY; exact h)
          have hY := Lib.hid hY
          have hYB := Lib.hid hYB
          clear O4 hbx4
          refine wpAnyH_ready (rs := [9]) (by kernel_rfl) (by simp) ?_
          refine AllReadyH.cons (o := ⟨none, _, _, _, _, _⟩) rfl (fun K hK => ?_) AllReadyH.nil
          go_simp
          refine hK.out _ _ ?_ (fun hHeld2 => ?_)
          · exact ⟨cell_later hYB.out i0, cell_later hYB.out i1⟩
          clear hK K hHeld F4 n0 n1 n2 n3 n4 n5 n6 n7 n8 m0 m1 m2 m3 m4 m5 m6 m7 m8 g0 g1
          have hHeld := hHeld2
          clear hHeld2
          try simp only [Act.put, List.setIfInBounds_toArray, List.set_cons_zero, List.set_cons_succ]
          refine wpAnyH_take (i := 10) (oi := ⟨some 7, _, _, _, _, _⟩) (v := ?_) rfl (by kernel_rfl) (by kernel_rfl) (by kernel_rfl) (fun _ _ _ h => h) (Or.inl ⟨by rfl, ?_⟩) (by assumption) ?_
          rotate_left 1
          · intro w hSw; (try dsimp only at hSw); go_simp; try (with_reducible rfl)
          try simp only [Act.put, List.setIfInBounds_toArray, List.set_cons_zero, List.set_cons_succ]
          refine wpAnyH_done (by kernel_rfl) ?_ _
          try simp only [Act.put, List.setIfInBounds_toArray, List.set_cons_zero, List.set_cons_succ]
          go_wp2_with fail
          go_meet
          exact hY
        refine AllReadyH.cons (o := ⟨some 6, _, _, _, _, _⟩) rfl (fun K hK => ?_) AllReadyH.nil
        have F2 := Lib.hid F1.out.box
        have BA := (Below.refl w2x.heap.size w2x).alloc (Nat.le_refl _) (.cells #[.int .i64 0, .int .i64 0, .int .i64 0, .int .i64 0, .int .i64 0, .int .i64 0, .int .i64 0, .int .i64 0, .slice none 0 0] 30)
        replace O2 := Lib.hid (O2.out.up BA)
        go_simp
        generalize (w2x.alloc (.cells #[.int .i64 0, .int .i64 0, .int .i64 0, .int .i64 0, .int .i64 0, .int .i64 0, .int .i64 0, .int .i64 0, .slice none 0 0] 30)) = V2 at F2 BA O2 ⊢
        refine hK.out _ _ ?_ (fun hHeld2 => ?_)
        · exact ⟨cell_later BA hHeld.1, cell_later BA hHeld.2⟩
        clear hK K hHeld BA
        have hHeld := hHeld2
        clear hHeld2
        try simp only [Act.put, List.setIfInBounds_toArray, List.set_cons_zero, List.set_cons_succ]
        refine wpAnyH_ready (rs := [3]) (by kernel_rfl) (by simp) ?_
        refine AllReadyH.cons (o := ⟨some 25, _, _, _, _, _⟩) rfl (fun K hK => ?_) AllReadyH.nil
        go_simp
        (with_reducible refine (toId_any x y _).mono ?_)
        rintro e w3x ⟨rfl, hb⟩
        replace O2 := Lib.hid (O2.out.up hb)
        have F3 := Lib.hid (F2.out.low hb)
        go_wp2_with fail
        refine hK.out _ _ ?_ (fun hHeld2 => ?_)
        · exact ⟨cell_later hb hHeld.1, cell_later hb hHeld.2⟩
        clear hK K hHeld hb
        have hHeld := hHeld2
        clear hHeld2
        try simp only [Act.put, List.setIfInBounds_toArray, List.set_cons_zero, List.set_cons_succ]
        refine wpAnyH_ready (rs := [4]) (by kernel_rfl) (by simp) ?_
        refine AllReadyH.cons (o := ⟨some 26, _, _, _, _, _⟩) rfl (fun K hK => ?_) AllReadyH.nil
        go_simp
        have hsz4 := F3.out.kp.size
        have hbx4 := fun b e => lt_of_heap (F3.out.bx b e).2
        (with_reducible refine (sv _ _ O2.out.read).mono ?_)
        rintro e w4x ⟨u4, rfl, O4, hb⟩
        obtain ⟨va, vn, vc, rfl⟩ : ∃ ua un uc, u4 = .slice ua un uc := by obtain ⟨a, c, e, _⟩ := O4.read; exact ⟨a, _, c, e⟩
        have O4 := Lib.hid O4
        have F4 := Lib.hid (F3.out.low hb)
        have hszA := Nat.le_refl w4x.heap.size
        clear O2
        go_wp2_with fail
        refine hK.out _ _ ?_ (fun hHeld2 => ?_)
        · exact ⟨cell_later hb hHeld.1, cell_later hb hHeld.2⟩
        clear hK K hHeld hb
        have hHeld := hHeld2
        clear hHeld2
        try simp only [Act.put, List.setIfInBounds_toArray, List.set_cons_zero, List.set_cons_succ]
        refine wpAnyH_take (i := 5) (oi := ⟨some 21, _, _, _, _, _⟩) (v := ?_) rfl (by kernel_rfl) (by kernel_rfl) (by kernel_rfl) (fun _ _ _ h => h) (Or.inl ⟨by rfl, ?_⟩) (by assumption) ?_
        rotate_left 1
        · intro w hSw; (try dsimp only at hSw); go_simp; try (with_reducible rfl)
        try simp only [Act.put, List.setIfInBounds_toArray, List.set_cons_zero, List.set_cons_succ]
        refine wpAnyH_take (i := 6) (oi := ⟨some 27, _, _, _, _, _⟩) (v := ?_) rfl (by kernel_rfl) (by kernel_rfl) (by kernel_rfl) (fun _ _ _ h => h) (Or.inl ⟨by rfl, ?_⟩) (by assumption) ?_
        rotate_left 1
        · intro w hSw; (try dsimp only at hSw); go_simp; try (with_reducible rfl)
        try simp only [Act.put, List.setIfInBounds_toArray, List.set_cons_zero, List.set_cons_succ]
        refine wpAnyH_take (i := 7) (oi := ⟨some 28, _, _, _, _, _⟩) (v := ?_) rfl (by kernel_rfl) (by kernel_rfl) (by kernel_rfl) (fun _ _ _ h => h) (Or.inl ⟨by rfl, ?_⟩) (by assumption) ?_
        rotate_left 1
        · intro w hSw; (try dsimp only at hSw); go_simp; try (with_reducible rfl)
        try simp only [Act.put, List.setIfInBounds_toArray, List.set_cons_zero, List.set_cons_succ]
        obtain ⟨g0, g1⟩ := F4.out.bx _ rfl
        obtain ⟨⟨n0, n1, n2, n3, n4, n5, n6, n7, n8⟩, ⟨m0, m1, m2, m3, m4, m5, m6, m7, m8⟩, hxl⟩ := nine_all g1
        have hY := F4.out.done (q := q) O4.out hsz4 hszA (by intro h; have := hbx4 _ rfl; have := h.1; omega)
        have hYB : Below w1.heap.size w1 _ := (by obtain ⟨_, _, _, _, _, _, _, _, _, _, h⟩ := hY; exact h)
        have hY := Lib.hid hY
        have hYB := Lib.hid hYB
        clear O4 hbx4
        refine wpAnyH_ready (rs := [9]) (by kernel_rfl) (by simp) ?_
        refine AllReadyH.cons (o := ⟨none, _, _, _, _, _⟩) rfl (fun K hK => ?_) AllReadyH.nil
        go_simp
        refine hK.out _ _ ?_ (fun hHeld2 => ?_)
        · exact ⟨cell_later hYB.out i0, cell_later hYB.out i1⟩
        clear hK K hHeld F4 n0 n1 n2 n3 n4 n5 n6 n7 n8 m0 m1 m2 m3 m4 m5 m6 m7 m8 g0 g1
        have hHeld := hHeld2
        clear hHeld2
        try simp only [Act.put, List.setIfInBounds_toArray, List.set_cons_zero, List.set_cons_succ]
        refine wpAnyH_take (i := 10) (oi := ⟨some 7, _, _, _, _, _⟩) (v := ?_) rfl (by kernel_rfl) (by kernel_rfl) (by kernel_rfl) (fun _ _ _ h => h) (Or.inl ⟨by rfl, ?_⟩) (by assumption) ?_
        rotate_left 1
        · intro w hSw; (try dsimp only at hSw); go_simp; try (with_reducible rfl)
        try simp only [Act.put, List.setIfInBounds_toArray, List.set_cons_zero, List.set_cons_succ]
        refine wpAnyH_done (by kernel_rfl) ?_ _
        try simp only [Act.put, List.setIfInBounds_toArray, List.set_cons_zero, List.set_cons_succ]
        go_wp2_with fail
        go_meet
        exact hY
      refine AllReadyH.cons (o := ⟨some 6, _, _, _, _, _⟩) rfl (fun K hK => ?_) AllReadyH.nil
      have F1 := Lib.hid F0.out.box
      have BA := (Below.refl V0.heap.size V0).alloc (Nat.le_refl _) (.cells #[.int .i64 0, .int .i64 0, .int .i64 0, .int .i64 0, .int .i64 0, .int .i64 0, .int .i64 0, .int .i64 0, .slice none 0 0] 30)
      go_simp
      generalize (V0.alloc (.cells #[.int .i64 0, .int .i64 0, .int .i64 0, .int .i64 0, .int .i64 0, .int .i64 0, .int .i64 0, .int .i64 0, .slice none 0 0] 30)) = V1 at F1 BA ⊢
      refine hK.out _ _ ?_ (fun hHeld2 => ?_)
      · exact ⟨cell_later BA hHeld.1, cell_later BA hHeld.2⟩
      clear hK K hHeld BA
      have hHeld := hHeld2
      clear hHeld2
      try simp only [Act.put, List.setIfInBounds_toArray, List.set_cons_zero, List.set_cons_succ]
      refine wpAnyH_ready (rs := [1]) (by kernel_rfl) (by simp) ?_
      refine AllReadyH.cons (o := ⟨some 23, _, _, _, _, _⟩) rfl (fun K hK => ?_) AllReadyH.nil
      go_simp
      (with_reducible refine (te _ (bstep E0.out F1.out.kp)).mono ?_)
      rintro e w2x ⟨u2, rfl, O2, hb⟩
      have O2 := Lib.hid O2
      have F2 := Lib.hid (F1.out.low hb)
      go_wp2_with fail
      refine hK.out _ _ ?_ (fun hHeld2 => ?_)
      · exact ⟨cell_later hb hHeld.1, cell_later hb hHeld.2⟩
      clear hK K hHeld hb
      have hHeld := hHeld2
      clear hHeld2
      try simp only [Act.put, List.setIfInBounds_toArray, List.set_cons_zero, List.set_cons_succ]
      refine wpAnyH_ready (rs := [3]) (by kernel_rfl) (by simp) ?_
      refine AllReadyH.cons (o := ⟨some 25, _, _, _, _, _⟩) rfl (fun K hK => ?_) AllReadyH.nil
      go_simp
      (with_reducible refine (toId_any x y _).mono ?_)
      rintro e w3x ⟨rfl, hb⟩
      replace O2 := Lib.hid (O2.out.up hb)
      have F3 := Lib.hid (F2.out.low hb)
      go_wp2_with fail
      refine hK.out _ _ ?_ (fun hHeld2 => ?_)
      · exact ⟨cell_later hb hHeld.1, cell_later hb hHeld.2⟩
      clear hK K hHeld hb
      have hHeld := hHeld2
      clear hHeld2
      try simp only [Act.put, List.setIfInBounds_toArray, List.set_cons_zero, List.set_cons_succ]
      refine wpAnyH_ready (rs := [4]) (by kernel_rfl) (by simp) ?_
      refine AllReadyH.cons (o := ⟨some 26, _, _, _, _, _⟩) rfl (fun K hK => ?_) AllReadyH.nil
      go_simp
      have hsz4 := F3.out.kp.size
      have hbx4 := fun b e => lt_of_heap (F3.out.bx b e).2
      (with_reducible refine (sv _ _ O2.out.read).mono ?_)
      rintro e w4x ⟨u4, rfl, O4, hb⟩
      obtain ⟨va, vn, vc, rfl⟩ : ∃ ua un uc, u4 = .slice ua un uc := by obtain ⟨a, c, e, _⟩ := O4.read; exact ⟨a, _, c, e⟩
      have O4 := Lib.hid O4
      have F4 := Lib.hid (F3.out.low hb)
      have hszA := Nat.le_refl w4x.heap.size
      clear O2
      go_wp2_with fail
      refine hK.out _ _ ?_ (fun hHeld2 => ?_)
      · exact ⟨cell_later hb hHeld.1, cell_later hb hHeld.2⟩
      clear hK K hHeld hb
      have hHeld := hHeld2
      clear hHeld2
      try simp only [Act.put, List.setIfInBounds_toArray, List.set_cons_zero, List.set_cons_succ]
      refine wpAnyH_take (i := 5) (oi := ⟨some 21, _, _, _, _, _⟩) (v := ?_) rfl (by kernel_rfl) (by kernel_rfl) (by kernel_rfl) (fun _ _ _ h => h) (Or.inl ⟨by rfl, ?_⟩) (by assumption) ?_
      rotate_left 1
      · intro w hSw; (try dsimp only at hSw); go_simp; try (with_reducible rfl)
      try simp only [Act.put, List.setIfInBounds_toArray, List.set_cons_zero, List.set_cons_succ]
      refine wpAnyH_take (i := 6) (oi := ⟨some 27, _, _, _, _, _⟩) (v := ?_) rfl (by kernel_rfl) (by kernel_rfl) (by kernel_rfl) (fun _ _ _ h => h) (Or.inl ⟨by rfl, ?_⟩) (by assumption) ?_
      rotate_left 1
      · intro w hSw; (try dsimp only at hSw); go_simp; try (with_reducible rfl)
      try simp only [Act.put, List.setIfInBounds_toArray, List.set_cons_zero, List.set_cons_succ]
      refine wpAnyH_take (i := 7) (oi := ⟨some 28, _, _, _, _, _⟩) (v := ?_) rfl (by kernel_rfl) (by kernel_rfl) (by kernel_rfl) (fun _ _ _ h => h) (Or.inl ⟨by rfl, ?_⟩) (by assumption) ?_
      rotate_left 1
      · intro w hSw; (try dsimp only at hSw); go_simp; try (with_reducible rfl)
      try simp only [Act.put, List.setIfInBounds_toArray, List.set_cons_zero, List.set_cons_succ]
      obtain ⟨g0, g1⟩ := F4.out.bx _ rfl
      obtain ⟨⟨n0, n1, n2, n3, n4, n5, n6, n7, n8⟩, ⟨m0, m1, m2, m3, m4, m5, m6, m7, m8⟩, hxl⟩ := nine_all g1
      have hY := F4.out.done (q := q) O4.out hsz4 hszA (by intro h; have := hbx4 _ rfl; have := h.1; omega)
      have hYB : Below w1.heap.size w1 _ := (by obtain ⟨_, _, _, _, _, _, _, _, _, _, h⟩ := hY; exact h)
      have hY := Lib.hid hY
      have hYB := Lib.hid hYB
      clear O4 hbx4
      refine wpAnyH_ready (rs := [9]) (by kernel_rfl) (by simp) ?_
      refine AllReadyH.cons (o := ⟨none, _, _, _, _, _⟩) rfl (fun K hK => ?_) AllReadyH.nil
      go_simp
      refine hK.out _ _ ?_ (fun hHeld2 => ?_)
      · exact ⟨cell_later hYB.out i0, cell_later hYB.out i1⟩
      clear hK K hHeld F4 n0 n1 n2 n3 n4 n5 n6 n7 n8 m0 m1 m2 m3 m4 m5 m6 m7 m8 g0 g1
      have hHeld := hHeld2
      clear hHeld2
      try simp only [Act.put, List.setIfInBounds_toArray, List.set_cons_zero, List.set_cons_succ]
      refine wpAnyH_take (i := 10) (oi := ⟨some 7, _, _, _, _, _⟩) (v := ?_) rfl (by kernel_rfl) (by kernel_rfl) (by kernel_rfl) (fun _ _ _ h => h) (Or.inl ⟨by rfl, ?_⟩) (by assumption) ?_
      rotate_left 1
      · intro w hSw; (try dsimp only at hSw); go_simp; try (with_reducible rfl)
      try simp only [Act.put, List.setIfInBounds_toArray, List.set_cons_zero, List.set_cons_succ]
      refine wpAnyH_done (by kernel_rfl) ?_ _
      try simp only [Act.put, List.setIfInBounds_toArray, List.set_cons_zero, List.set_cons_succ]
      go_wp2_with fail
      go_meet
      exact hY
    case rest =>
      obtain ⟨xb6, u6, B6, T6, rfl, rfl, X6, hx6, hb6, ht6, E6⟩ := hcut.out
      have X6 := Lib.hid X6
      have E6 := Lib.hid E6
      have hI6 := Lib.hid (bblk E6.out hil hI.out)
      have hl6 := X6.out.1.cells.2
      obtain ⟨va6, vn6, vc6, rfl⟩ : ∃ ua un uc, u6 = .slice ua un uc := by obtain ⟨a, c, e, _⟩ := X6.out.2.1.read; exact ⟨a, _, c, e⟩
      obtain ⟨S5, hS5⟩ : ∃ n, Hid (wc.heap.size = n) := ⟨_, Lib.hid rfl⟩
      rw [hS5.out] at ht6 hl6
      have hw15 := E6.out.size
      rw [hS5.out] at hw15
      clear hcut i0 i1 sv E0
      go_wp2_with fail
      refine (te _ E6.out).mono ?_
      rintro e w8 ⟨v8, rfl, O8, B⟩
      rw [hS5.out] at O8
      have O8 := Lib.hid O8
      have M8 := Lib.hid O8.out.mk
      obtain ⟨gx, cx, Lx, rfl, hm1, hm2, hm3⟩ := M8.out
      obtain ⟨S6, hS6⟩ : ∃ n, Hid (w8.heap.size = n) := ⟨_, Lib.hid rfl⟩
      rw [hS6.out] at hm3
      have hm3 := Lib.hid hm3
      have hs56 := B.size
      rw [hS5.out, hS6.out] at hs56
      replace X6 := Lib.hid (X6.out.up B)
      have EE := Lib.hid (bstep E6.out B)
      have hI8 := Lib.hid (bblk B (lt_of_heap hI6.out) hI6.out)
      obtain ⟨i0, i1, _, _⟩ := blk2 hI8.out
      have hil8 := lt_of_heap hI8.out
      clear B M8 hI6 E6
      go_wp2_with fail
      refine (toId_any x y _).mono ?_
      rintro e w9 ⟨rfl, B⟩
      have hs9 := B.size
      rw [hS6.out] at hs9
      replace X6 := Lib.hid (X6.out.up B)
      replace O8 := Lib.hid (O8.out.up B)
      replace hm3 := Lib.hid (hm3.out.up B)
      replace EE := Lib.hid (bstep EE.out B)
      have hI9 := Lib.hid (bblk B (lt_of_heap hI8.out) hI8.out)
      clear B hI8 i0 i1 hil8
      go_wp2_with fail
      refine (iv _ _ O8.out.read).mono ?_
      rintro e w10 ⟨u9, rfl, O9, B⟩
      obtain ⟨va9, vn9, vc9, rfl⟩ : ∃ ua un uc, u9 = .slice ua un uc := by obtain ⟨a, c, e, _⟩ := O9.read; exact ⟨a, _, c, e⟩
      replace X6 := Lib.hid (X6.out.up B)
      replace O8 := Lib.hid (O8.out.up B)
      replace hm3 := Lib.hid (hm3.out.up B)
      replace EE := Lib.hid (bstep EE.out B)
      have hI10 := Lib.hid (bblk B (lt_of_heap hI9.out) hI9.out)
      obtain ⟨B9, hB9⟩ : ∃ n, Hid (w9.heap.size = n) := ⟨_, Lib.hid rfl⟩
      obtain ⟨T9, hT9⟩ : ∃ n, Hid (w10.heap.size = n) := ⟨_, Lib.hid rfl⟩
      have hs10 := B.size
      rw [hB9.out, hT9.out] at O9 hs10
      rw [hB9.out] at hs9
      -- the box of what the program found
      have BA := (Below.refl w10.heap.size w10).alloc (Nat.le_refl _) (.cells #[.int .i64 X.id.1, .int .i64 X.id.2, .int .i64 X.bal, .int .i64 X.st, .int .i64 X.k, .int .i64 X.key, .int .i64 X.v, .int .i64 X.seq, .slice va9 vn9 vc9] 30)
      have X9 := Lib.hid (show FxE (w10.alloc (.cells #[.int .i64 X.id.1, .int .i64 X.id.2, .int .i64 X.bal, .int .i64 X.st, .int .i64 X.k, .int .i64 X.key, .int .i64 X.v, .int .i64 X.seq, .slice va9 vn9 vc9] 30)) w10.heap.size X (.slice va9 vn9 vc9) B9 T9 from ⟨heap_alloc_new _ _, O9.up BA, by have := hT9.out; omega⟩)
      replace X6 := Lib.hid (X6.out.up BA)
      replace O8 := Lib.hid (O8.out.up BA)
      replace hm3 := Lib.hid (hm3.out.up BA)
      replace EE := Lib.hid (bstep EE.out BA)
      have hI11 := Lib.hid (bblk BA (lt_of_heap hI10.out) hI10.out)
      clear B BA O9 hI9 hI10
      go_upto_region 8 with fail
      generalize w10.alloc (.cells #[.int .i64 X.id.1, .int .i64 X.id.2, .int .i64 X.bal, .int .i64 X.st, .int .i64 X.k, .int .i64 X.key, .int .i64 X.v, .int .i64 X.seq, .slice va9 vn9 vc9] 30) = w11 at X9 X6 O8 hm3 EE hI11 ⊢
      rw [hT9.out] at X9 ⊢
      obtain ⟨⟨p0, p1, p2, p3, p4, p5, p6, p7, p8⟩, pl⟩ := X6.out.1.cells
      obtain ⟨⟨r0, r1, r2, r3, r4, r5, r6, r7, r8⟩, rl⟩ := X9.out.1.cells
      go_wp2_with fail
      refine (eqE_any X _ _ _ X9.out.2.1.read X6.out.2.1.read).mono ?_
      rintro e w12 ⟨rfl, B⟩
      replace X6 := Lib.hid (X6.out.up B)
      replace X9 := Lib.hid (X9.out.up B)
      replace O8 := Lib.hid (O8.out.up B)
      replace hm3 := Lib.hid (hm3.out.up B)
      replace EE := Lib.hid (bstep EE.out B)
      replace hI11 := Lib.hid (bblk B (lt_of_heap hI11.out) hI11.out)
      clear B p0 p1 p2 p3 p4 p5 p6 p7 p8 pl r0 r1 r2 r3 r4 r5 r6 r7 r8 rl
      go_wp2_with fail
      refine (te _ EE.out).mono ?_
      rintro e w13 ⟨v13, rfl, O13, B⟩
      have O13 := Lib.hid O13
      replace X6 := Lib.hid (X6.out.up B)
      replace X9 := Lib.hid (X9.out.up B)
      replace O8 := Lib.hid (O8.out.up B)
      replace hm3 := Lib.hid (hm3.out.up B)
      replace EE := Lib.hid (bstep EE.out B)
      replace hI11 := Lib.hid (bblk B (lt_of_heap hI11.out) hI11.out)
      clear B
      go_wp2_with fail
      refine (eqEs_any _ _ E _ O8.out.read O13.out.read).mono ?_
      rintro e w14 ⟨rfl, B⟩
      replace X6 := Lib.hid (X6.out.up B)
      replace X9 := Lib.hid (X9.out.up B)
      replace hm3 := Lib.hid (hm3.out.up B)
      replace EE := Lib.hid (bstep EE.out B)
      replace hI11 := Lib.hid (bblk B (lt_of_heap hI11.out) hI11.out)
      have mk := markEs_any _ _ gx E.length cx Lx _ hm1 hm3.out
      clear B O8 O13
      go_wp2_with fail
      refine mk.mono ?_
      rintro e w15 ⟨zk, rfl, hzk, XX⟩
      have hzk2 : ¬ zk < 0 := by omega
      replace X6 := Lib.hid (X6.out.apart XX (by omega) (fun b _ _ => by omega))
      replace X9 := Lib.hid (X9.out.apart XX (by omega) (fun b _ _ => by omega))
      replace EE := Lib.hid (EE.out.trans (XX.to (B := w1.heap.size) EE.out.size (fun b hb => by omega)))
      replace hI11 := Lib.hid (XX.at (by omega) hI11.out)
      clear XX mk hm3
      obtain ⟨⟨p0, p1, p2, p3, p4, p5, p6, p7, p8⟩, pl⟩ := X6.out.1.cells
      obtain ⟨⟨r0, r1, r2, r3, r4, r5, r6, r7, r8⟩, rl⟩ := X9.out.1.cells
      go_wp2_with fail
      refine (eqE_any X _ _ _ X9.out.2.1.read X6.out.2.1.read).mono ?_
      rintro e w16 ⟨rfl, B⟩
      replace X6 := Lib.hid (X6.out.up B)
      replace X9 := Lib.hid (X9.out.up B)
      replace EE := Lib.hid (bstep EE.out B)
      replace hI11 := Lib.hid (bblk B (lt_of_heap hI11.out) hI11.out)
      clear B p0 p1 p2 p3 p4 p5 p6 p7 p8 pl r0 r1 r2 r3 r4 r5 r6 r7 r8 rl
      obtain ⟨⟨r0, r1, r2, r3, r4, r5, r6, r7, r8⟩, rl⟩ := X9.out.1.cells
      have hDl : X.deps.length ≤ 2000000 := by obtain ⟨_, _, _, _, h, _⟩ := X9.out.2.1.read; exact h
      obtain ⟨ns, hns⟩ : ∃ n, Hid (X.deps.length = n) := ⟨_, Lib.hid rfl⟩
      rw [hns.out] at hDl
      go_wp2_with fail
      refine (markE_z B9 T9 X _ X.deps 1 _ X9.out.2.1 (by omega) (by omega)).mono ?_
      rintro e w17 ⟨rfl, M, hM, hMk, hO, XX⟩
      rw [hns.out] at hM
      have hM := Lib.hid hM
      have hMk := Lib.hid hMk
      have hx9 := X9.out.2.2
      have G9 := Lib.hid (X9.out.1.apart XX hx9)
      have O9 := Lib.hid hO
      replace X6 := Lib.hid (X6.out.apart XX (by omega) (fun b _ _ => by omega))
      replace EE := Lib.hid (EE.out.trans (XX.to (B := w1.heap.size) EE.out.size (fun b hb => by omega)))
      replace hI11 := Lib.hid (XX.at (by omega) hI11.out)
      clear XX hO X9 r0 r1 r2 r3 r4 r5 r6 r7 r8 rl
      rw [hns.out]
      obtain ⟨⟨r0, r1, r2, r3, r4, r5, r6, r7, r8⟩, rl⟩ := G9.out.cells
      go_wp2_with fail
      refine (heldE_z X _ 1 M _ hMk.out O9.out.read (by omega) (by omega)).mono ?_
      rw [hM.out]
      rintro e w18 ⟨rfl, B⟩
      replace X6 := Lib.hid (X6.out.up B)
      replace G9 := Lib.hid (G9.out.up B)
      replace O9 := Lib.hid (O9.out.up B)
      replace EE := Lib.hid (bstep EE.out B)
      replace hI11 := Lib.hid (bblk B (lt_of_heap hI11.out) hI11.out)
      clear B r0 r1 r2 r3 r4 r5 r6 r7 r8 rl
      go_upto_region 24 with fail
      obtain ⟨i0, i1, _, _⟩ := blk2 hI11.out
      go_cut [14, 15] from 79 to 86 (fun s6 s7 wx => Hid (LfQ X q w18 s6 s7 wx))
      case first =>
        have F0 := Lib.hid (FE.start (w0 := w18))
        refine wp_region_held_drew (S := fun w' => w'.cell? ⟨ib, 0, none⟩ = some (.int .i64 x) ∧ w'.cell? ⟨ib, 1, none⟩ = some (.int .i64 y)) (by kernel_rfl) ⟨i0, i1⟩ (fun hHeld => ?_)
        generalize w18.drew = V0 at F0 hHeld ⊢
        refine wpAnyH_take (i := 0) (oi := ⟨some 80, _, _, _, _, _⟩) (v := ?_) rfl (by kernel_rfl) (by kernel_rfl) (by kernel_rfl) (fun _ _ _ h => h) (Or.inl ⟨by rfl, ?_⟩) (by assumption) ?_
        rotate_left 1
        · intro w hSw; (try dsimp only at hSw); go_simp; try (with_reducible rfl)
        try simp only [Act.put, List.setIfInBounds_toArray, List.set_cons_zero, List.set_cons_succ]
        refine wpAnyH_take (i := 2) (oi := ⟨some 82, _, _, _, _, _⟩) (v := ?_) rfl (by kernel_rfl) (by kernel_rfl) (by kernel_rfl) (fun _ _ _ h => h) (Or.inl ⟨by rfl, ?_⟩) (by assumption) ?_
        rotate_left 1
        · intro w hSw; (try dsimp only at hSw); go_simp; try (with_reducible rfl)
        try simp only [Act.put, List.setIfInBounds_toArray, List.set_cons_zero, List.set_cons_succ]
        refine wpAnyH_ready (rs := [1, 8]) (by kernel_rfl) (by simp) ?_
        refine AllReadyH.cons (o := ⟨some 81, _, _, _, _, _⟩) rfl (fun K hK => ?_) ?_
        · go_simp
          (with_reducible refine (te _ (bstep EE.out F0.out.kp)).mono ?_)
          rintro e w2x ⟨u2, rfl, O2, hb⟩
          have O2 := Lib.hid O2
          have F1 := Lib.hid (F0.out.low hb)
          go_wp2_with fail
          refine hK.out _ _ ?_ (fun hHeld2 => ?_)
          · exact ⟨cell_later hb hHeld.1, cell_later hb hHeld.2⟩
          clear hK K hHeld hb
          have hHeld := hHeld2
          clear hHeld2
          try simp only [Act.put, List.setIfInBounds_toArray, List.set_cons_zero, List.set_cons_succ]
          refine wpAnyH_ready (rs := [3, 8]) (by kernel_rfl) (by simp) ?_
          refine AllReadyH.cons (o := ⟨some 83, _, _, _, _, _⟩) rfl (fun K hK => ?_) ?_
          · go_simp
            (with_reducible refine (toId_any x y _).mono ?_)
            rintro e w3x ⟨rfl, hb⟩
            replace O2 := Lib.hid (O2.out.up hb)
            have F2 := Lib.hid (F1.out.low hb)
            go_wp2_with fail
            refine hK.out _ _ ?_ (fun hHeld2 => ?_)
            · exact ⟨cell_later hb hHeld.1, cell_later hb hHeld.2⟩
            clear hK K hHeld hb
            have hHeld := hHeld2
            clear hHeld2
            try simp only [Act.put, List.setIfInBounds_toArray, List.set_cons_zero, List.set_cons_succ]
            refine wpAnyH_ready (rs := [4, 8]) (by kernel_rfl) (by simp) ?_
            refine AllReadyH.cons (o := ⟨some 84, _, _, _, _, _⟩) rfl (fun K hK => ?_) ?_
            · go_simp
              have hsz4 := F2.out.kp.size
              have hbx4 := fun b e => lt_of_heap (F2.out.bx b e).2
              (with_reducible refine (iv _ _ O2.out.read).mono ?_)
              rintro e w4x ⟨u4, rfl, O4, hb⟩
              obtain ⟨va, vn, vc, rfl⟩ : ∃ ua un uc, u4 = .slice ua un uc := by obtain ⟨a, c, e, _⟩ := O4.read; exact ⟨a, _, c, e⟩
              have O4 := Lib.hid O4
              have F3 := Lib.hid (F2.out.low hb)
              have hszA := Nat.le_refl w4x.heap.size
              clear O2
              go_wp2_with fail
              refine hK.out _ _ ?_ (fun hHeld2 => ?_)
              · exact ⟨cell_later hb hHeld.1, cell_later hb hHeld.2⟩
              clear hK K hHeld hb
              have hHeld := hHeld2
              clear hHeld2
              try simp only [Act.put, List.setIfInBounds_toArray, List.set_cons_zero, List.set_cons_succ]
              refine wpAnyH_take (i := 5) (oi := ⟨some 79, _, _, _, _, _⟩) (v := ?_) rfl (by kernel_rfl) (by kernel_rfl) (by kernel_rfl) (fun _ _ _ h => h) (Or.inl ⟨by rfl, ?_⟩) (by assumption) ?_
              rotate_left 1
              · intro w hSw; (try dsimp only at hSw); go_simp; try (with_reducible rfl)
              try simp only [Act.put, List.setIfInBounds_toArray, List.set_cons_zero, List.set_cons_succ]
              refine wpAnyH_take (i := 6) (oi := ⟨some 85, _, _, _, _, _⟩) (v := ?_) rfl (by kernel_rfl) (by kernel_rfl) (by kernel_rfl) (fun _ _ _ h => h) (Or.inl ⟨by rfl, ?_⟩) (by assumption) ?_
              rotate_left 1
              · intro w hSw; (try dsimp only at hSw); go_simp; try (with_reducible rfl)
              try simp only [Act.put, List.setIfInBounds_toArray, List.set_cons_zero, List.set_cons_succ]
              refine wpAnyH_take (i := 7) (oi := ⟨some 86, _, _, _, _, _⟩) (v := ?_) rfl (by kernel_rfl) (by kernel_rfl) (by kernel_rfl) (fun _ _ _ h => h) (Or.inl ⟨by rfl, ?_⟩) (by assumption) ?_
              rotate_left 1
              · intro w hSw; (try dsimp only at hSw); go_simp; try (with_reducible rfl)
              try simp only [Act.put, List.setIfInBounds_toArray, List.set_cons_zero, List.set_cons_succ]
              refine wpAnyH_ready (rs := [8]) (by kernel_rfl) (by simp) ?_
              refine AllReadyH.cons (o := ⟨some 14, _, _, _, _, _⟩) rfl (fun K hK => ?_) AllReadyH.nil
              have F4 := Lib.hid F3.out.box
              have BA := (Below.refl w4x.heap.size w4x).alloc (Nat.le_refl _) (.cells #[.int .i64 0, .int .i64 0, .int .i64 0, .int .i64 0, .int .i64 0, .int .i64 0, .int .i64 0, .int .i64 0, .slice none 0 0] 30)
              replace O4 := Lib.hid (O4.out.up BA)
              have hszA := BA.size
              go_simp
              generalize (w4x.alloc (.cells #[.int .i64 0, .int .i64 0, .int .i64 0, .int .i64 0, .int .i64 0, .int .i64 0, .int .i64 0, .int .i64 0, .slice none 0 0] 30)) = V4 at F4 BA O4 hszA ⊢
              refine hK.out _ _ ?_ (fun hHeld2 => ?_)
              · exact ⟨cell_later BA hHeld.1, cell_later BA hHeld.2⟩
              clear hK K hHeld BA
              have hHeld := hHeld2
              clear hHeld2
              try simp only [Act.put, List.setIfInBounds_toArray, List.set_cons_zero, List.set_cons_succ]
              obtain ⟨g0, g1⟩ := F4.out.bx _ rfl
              obtain ⟨⟨n0, n1, n2, n3, n4, n5, n6, n7, n8⟩, ⟨m0, m1, m2, m3, m4, m5, m6, m7, m8⟩, hxl⟩ := nine_all g1
              have hY := F4.out.done (q := q) O4.out hsz4 hszA (by intro h; have := h.2; omega)
              have hYB : Below w18.heap.size w18 _ := (by obtain ⟨_, _, _, _, _, _, _, _, _, _, h⟩ := hY; exact h)
              have hY := Lib.hid hY
              have hYB := Lib.hid hYB
              clear O4 hbx4
              refine wpAnyH_ready (rs := [9]) (by kernel_rfl) (by simp) ?_
              refine AllReadyH.cons (o := ⟨none, _, _, _, _, _⟩) rfl (fun K hK => ?_) AllReadyH.nil
              go_simp
              refine hK.out _ _ ?_ (fun hHeld2 => ?_)
              · exact ⟨cell_later hYB.out i0, cell_later hYB.out i1⟩
              clear hK K hHeld F4 n0 n1 n2 n3 n4 n5 n6 n7 n8 m0 m1 m2 m3 m4 m5 m6 m7 m8 g0 g1
              have hHeld := hHeld2
              clear hHeld2
              try simp only [Act.put, List.setIfInBounds_toArray, List.set_cons_zero, List.set_cons_succ]
              refine wpAnyH_take (i := 10) (oi := ⟨some 15, _, _, _, _, _⟩) (v := ?_) rfl (by kernel_rfl) (by kernel_rfl) (by kernel_rfl) (fun _ _ _ h => h) (Or.inl ⟨by rfl, ?_⟩) (by assumption) ?_
              rotate_left 1
              · intro w hSw; (try dsimp only at hSw); go_simp; try (with_reducible rfl)
              try simp only [Act.put, List.setIfInBounds_toArray, List.set_cons_zero, List.set_cons_succ]
              refine wpAnyH_done (by kernel_rfl) ?_ _
              try simp only [Act.put, List.setIfInBounds_toArray, List.set_cons_zero, List.set_cons_succ]
              go_wp2_with fail
              go_meet
              exact hY
            refine AllReadyH.cons (o := ⟨some 14, _, _, _, _, _⟩) rfl (fun K hK => ?_) AllReadyH.nil
            have F3 := Lib.hid F2.out.box
            have BA := (Below.refl w3x.heap.size w3x).alloc (Nat.le_refl _) (.cells #[.int .i64 0, .int .i64 0, .int .i64 0, .int .i64 0, .int .i64 0, .int .i64 0, .int .i64 0, .int .i64 0, .slice none 0 0] 30)
            replace O2 := Lib.hid (O2.out.up BA)
            go_simp
            generalize (w3x.alloc (.cells #[.int .i64 0, .int .i64 0, .int .i64 0, .int .i64 0, .int .i64 0, .int .i64 0, .int .i64 0, .int .i64 0, .slice none 0 0] 30)) = V3 at F3 BA O2 ⊢
            refine hK.out _ _ ?_ (fun hHeld2 => ?_)
            · exact ⟨cell_later BA hHeld.1, cell_later BA hHeld.2⟩
            clear hK K hHeld BA
            have hHeld := hHeld2
            clear hHeld2
            try simp only [Act.put, List.setIfInBounds_toArray, List.set_cons_zero, List.set_cons_succ]
            refine wpAnyH_ready (rs := [4]) (by kernel_rfl) (by simp) ?_
            refine AllReadyH.cons (o := ⟨some 84, _, _, _, _, _⟩) rfl (fun K hK => ?_) AllReadyH.nil
            go_simp
            have hsz4 := F3.out.kp.size
            have hbx4 := fun b e => lt_of_heap (F3.out.bx b e).2
            (with_reducible refine (iv _ _ O2.out.read).mono ?_)
            rintro e w4x ⟨u4, rfl, O4, hb⟩
            obtain ⟨va, vn, vc, rfl⟩ : ∃ ua un uc, u4 = .slice ua un uc := by obtain ⟨a, c, e, _⟩ := O4.read; exact ⟨a, _, c, e⟩
            have O4 := Lib.hid O4
            have F4 := Lib.hid (F3.out.low hb)
            have hszA := Nat.le_refl w4x.heap.size
            clear O2
            go_wp2_with fail
            refine hK.out _ _ ?_ (fun hHeld2 => ?_)
            · exact ⟨cell_later hb hHeld.1, cell_later hb hHeld.2⟩
            clear hK K hHeld hb
            have hHeld := hHeld2
            clear hHeld2
            try simp only [Act.put, List.setIfInBounds_toArray, List.set_cons_zero, List.set_cons_succ]
            refine wpAnyH_take (i := 5) (oi := ⟨some 79, _, _, _, _, _⟩) (v := ?_) rfl (by kernel_rfl) (by kernel_rfl) (by kernel_rfl) (fun _ _ _ h => h) (Or.inl ⟨by rfl, ?_⟩) (by assumption) ?_
            rotate_left 1
            · intro w hSw; (try dsimp only at hSw); go_simp; try (with_reducible rfl)
            try simp only [Act.put, List.setIfInBounds_toArray, List.set_cons_zero, List.set_cons_succ]
            refine wpAnyH_take (i := 6) (oi := ⟨some 85, _, _, _, _, _⟩) (v := ?_) rfl (by kernel_rfl) (by kernel_rfl) (by kernel_rfl) (fun _ _ _ h => h) (Or.inl ⟨by rfl, ?_⟩) (by assumption) ?_
            rotate_left 1
            · intro w hSw; (try dsimp only at hSw); go_simp; try (with_reducible rfl)
            try simp only [Act.put, List.setIfInBounds_toArray, List.set_cons_zero, List.set_cons_succ]
            refine wpAnyH_take (i := 7) (oi := ⟨some 86, _, _, _, _, _⟩) (v := ?_) rfl (by kernel_rfl) (by kernel_rfl) (by kernel_rfl) (fun _ _ _ h => h) (Or.inl ⟨by rfl, ?_⟩) (by assumption) ?_
            rotate_left 1
            · intro w hSw; (try dsimp only at hSw); go_simp; try (with_reducible rfl)
            try simp only [Act.put, List.setIfInBounds_toArray, List.set_cons_zero, List.set_cons_succ]
            obtain ⟨g0, g1⟩ := F4.out.bx _ rfl
            obtain ⟨⟨n0, n1, n2, n3, n4, n5, n6, n7, n8⟩, ⟨m0, m1, m2, m3, m4, m5, m6, m7, m8⟩, hxl⟩ := nine_all g1
            have hY := F4.out.done (q := q) O4.out hsz4 hszA (by intro h; have := hbx4 _ rfl; have := h.1; omega)
            have hYB : Below w18.heap.size w18 _ := (by obtain ⟨_, _, _, _, _, _, _, _, _, _, h⟩ := hY; exact h)
            have hY := Lib.hid hY
            have hYB := Lib.hid hYB
            clear O4 hbx4
            refine wpAnyH_ready (rs := [9]) (by kernel_rfl) (by simp) ?_
            refine AllReadyH.cons (o := ⟨none, _, _, _, _, _⟩) rfl (fun K hK => ?_) AllReadyH.nil
            go_simp
            refine hK.out _ _ ?_ (fun hHeld2 => ?_)
            · exact ⟨cell_later hYB.out i0, cell_later hYB.out i1⟩
            clear hK K hHeld F4 n0 n1 n2 n3 n4 n5 n6 n7 n8 m0 m1 m2 m3 m4 m5 m6 m7 m8 g0 g1
            have hHeld := hHeld2
            clear hHeld2
            try simp only [Act.put, List.setIfInBounds_toArray, List.set_cons_zero, List.set_cons_succ]
            refine wpAnyH_take (i := 10) (oi := ⟨some 15, _, _, _, _, _⟩) (v := ?_) rfl (by kernel_rfl) (by kernel_rfl) (by kernel_rfl) (fun _ _ _ h => h) (Or.inl ⟨by rfl, ?_⟩) (by assumption) ?_
            rotate_left 1
            · intro w hSw; (try dsimp only at hSw); go_simp; try (with_reducible rfl)
            try simp only [Act.put, List.setIfInBounds_toArray, List.set_cons_zero, List.set_cons_succ]
            refine wpAnyH_done (by kernel_rfl) ?_ _
            try simp only [Act.put, List.setIfInBounds_toArray, List.set_cons_zero, List.set_cons_succ]
            go_wp2_with fail
            go_meet
            exact hY
          refine AllReadyH.cons (o := ⟨some 14, _, _, _, _, _⟩) rfl (fun K hK => ?_) AllReadyH.nil
          have F2 := Lib.hid F1.out.box
          have BA := (Below.refl w2x.heap.size w2x).alloc (Nat.le_refl _) (.cells #[.int .i64 0, .int .i64 0, .int .i64 0, .int .i64 0, .int .i64 0, .int .i64 0, .int .i64 0, .int .i64 0, .slice none 0 0] 30)
          replace O2 := Lib.hid (O2.out.up BA)
          go_simp
          generalize (w2x.alloc (.cells #[.int .i64 0, .int .i64 0, .int .i64 0, .int .i64 0, .int .i64 0, .int .i64 0, .int .i64 0, .int .i64 0, .slice none 0 0] 30)) = V2 at F2 BA O2 ⊢
          refine hK.out _ _ ?_ (fun hHeld2 => ?_)
          · exact ⟨cell_later BA hHeld.1, cell_later BA hHeld.2⟩
          clear hK K hHeld BA
          have hHeld := hHeld2
          clear hHeld2
          try simp only [Act.put, List.setIfInBounds_toArray, List.set_cons_zero, List.set_cons_succ]
          refine wpAnyH_ready (rs := [3]) (by kernel_rfl) (by simp) ?_
          refine AllReadyH.cons (o := ⟨some 83, _, _, _, _, _⟩) rfl (fun K hK => ?_) AllReadyH.nil
          go_simp
          (with_reducible refine (toId_any x y _).mono ?_)
          rintro e w3x ⟨rfl, hb⟩
          replace O2 := Lib.hid (O2.out.up hb)
          have F3 := Lib.hid (F2.out.low hb)
          go_wp2_with fail
          refine hK.out _ _ ?_ (fun hHeld2 => ?_)
          · exact ⟨cell_later hb hHeld.1, cell_later hb hHeld.2⟩
          clear hK K hHeld hb
          have hHeld := hHeld2
          clear hHeld2
          try simp only [Act.put, List.setIfInBounds_toArray, List.set_cons_zero, List.set_cons_succ]
          refine wpAnyH_ready (rs := [4]) (by kernel_rfl) (by simp) ?_
          refine AllReadyH.cons (o := ⟨some 84, _, _, _, _, _⟩) rfl (fun K hK => ?_) AllReadyH.nil
          go_simp
          have hsz4 := F3.out.kp.size
          have hbx4 := fun b e => lt_of_heap (F3.out.bx b e).2
          (with_reducible refine (iv _ _ O2.out.read).mono ?_)
          rintro e w4x ⟨u4, rfl, O4, hb⟩
          obtain ⟨va, vn, vc, rfl⟩ : ∃ ua un uc, u4 = .slice ua un uc := by obtain ⟨a, c, e, _⟩ := O4.read; exact ⟨a, _, c, e⟩
          have O4 := Lib.hid O4
          have F4 := Lib.hid (F3.out.low hb)
          have hszA := Nat.le_refl w4x.heap.size
          clear O2
          go_wp2_with fail
          refine hK.out _ _ ?_ (fun hHeld2 => ?_)
          · exact ⟨cell_later hb hHeld.1, cell_later hb hHeld.2⟩
          clear hK K hHeld hb
          have hHeld := hHeld2
          clear hHeld2
          try simp only [Act.put, List.setIfInBounds_toArray, List.set_cons_zero, List.set_cons_succ]
          refine wpAnyH_take (i := 5) (oi := ⟨some 79, _, _, _, _, _⟩) (v := ?_) rfl (by kernel_rfl) (by kernel_rfl) (by kernel_rfl) (fun _ _ _ h => h) (Or.inl ⟨by rfl, ?_⟩) (by assumption) ?_
          rotate_left 1
          · intro w hSw; (try dsimp only at hSw); go_simp; try (with_reducible rfl)
          try simp only [Act.put, List.setIfInBounds_toArray, List.set_cons_zero, List.set_cons_succ]
          refine wpAnyH_take (i := 6) (oi := ⟨some 85, _, _, _, _, _⟩) (v := ?_) rfl (by kernel_rfl) (by kernel_rfl) (by kernel_rfl) (fun _ _ _ h => h) (Or.inl ⟨by rfl, ?_⟩) (by assumption) ?_
          rotate_left 1
          · intro w hSw; (try dsimp only at hSw); go_simp; try (with_reducible rfl)
          try simp only [Act.put, List.setIfInBounds_toArray, List.set_cons_zero, List.set_cons_succ]
          refine wpAnyH_take (i := 7) (oi := ⟨some 86, _, _, _, _, _⟩) (v := ?_) rfl (by kernel_rfl) (by kernel_rfl) (by kernel_rfl) (fun _ _ _ h => h) (Or.inl ⟨by rfl, ?_⟩) (by assumption) ?_
          rotate_left 1
          · intro w hSw; (try dsimp only at hSw); go_simp; try (with_reducible rfl)
          try simp only [Act.put, List.setIfInBounds_toArray, List.set_cons_zero, List.set_cons_succ]
          obtain ⟨g0, g1⟩ := F4.out.bx _ rfl
          obtain ⟨⟨n0, n1, n2, n3, n4, n5, n6, n7, n8⟩, ⟨m0, m1, m2, m3, m4, m5, m6, m7, m8⟩, hxl⟩ := nine_all g1
          have hY := F4.out.done (q := q) O4.out hsz4 hszA (by intro h; have := hbx4 _ rfl; have := h.1; omega)
          have hYB : Below w18.heap.size w18 _ := (by obtain ⟨_, _, _, _, _, _, _, _, _, _, h⟩ := hY; exact h)
          have hY := Lib.hid hY
          have hYB := Lib.hid hYB
          clear O4 hbx4
          refine wpAnyH_ready (rs := [9]) (by kernel_rfl) (by simp) ?_
          refine AllReadyH.cons (o := ⟨none, _, _, _, _, _⟩) rfl (fun K hK => ?_) AllReadyH.nil
          go_simp
          refine hK.out _ _ ?_ (fun hHeld2 => ?_)
          · exact ⟨cell_later hYB.out i0, cell_later hYB.out i1⟩
          clear hK K hHeld F4 n0 n1 n2 n3 n4 n5 n6 n7 n8 m0 m1 m2 m3 m4 m5 m6 m7 m8 g0 g1
          have hHeld := hHeld2
          clear hHeld2
          try simp only [Act.put, List.setIfInBounds_toArray, List.set_cons_zero, List.set_cons_succ]
          refine wpAnyH_take (i := 10) (oi := ⟨some 15, _, _, _, _, _⟩) (v := ?_) rfl (by kernel_rfl) (by kernel_rfl) (by kernel_rfl) (fun _ _ _ h => h) (Or.inl ⟨by rfl, ?_⟩) (by assumption) ?_
          rotate_left 1
          · intro w hSw; (try dsimp only at hSw); go_simp; try (with_reducible rfl)
          try simp only [Act.put, List.setIfInBounds_toArray, List.set_cons_zero, List.set_cons_succ]
          refine wpAnyH_done (by kernel_rfl) ?_ _
          try simp only [Act.put, List.setIfInBounds_toArray, List.set_cons_zero, List.set_cons_succ]
          go_wp2_with fail
          go_meet
          exact hY
        refine AllReadyH.cons (o := ⟨some 14, _, _, _, _, _⟩) rfl (fun K hK => ?_) AllReadyH.nil
        have F1 := Lib.hid F0.out.box
        have BA := (Below.refl V0.heap.size V0).alloc (Nat.le_refl _) (.cells #[.int .i64 0, .int .i64 0, .int .i64 0, .int .i64 0, .int .i64 0, .int .i64 0, .int .i64 0, .int .i64 0, .slice none 0 0] 30)
        go_simp
        generalize (V0.alloc (.cells #[.int .i64 0, .int .i64 0, .int .i64 0, .int .i64 0, .int .i64 0, .int .i64 0, .int .i64 0, .int .i64 0, .slice none 0 0] 30)) = V1 at F1 BA ⊢
        refine hK.out _ _ ?_ (fun hHeld2 => ?_)
        · exact ⟨cell_later BA hHeld.1, cell_later BA hHeld.2⟩
        clear hK K hHeld BA
        have hHeld := hHeld2
        clear hHeld2
        try simp only [Act.put, List.setIfInBounds_toArray, List.set_cons_zero, List.set_cons_succ]
        refine wpAnyH_ready (rs := [1]) (by kernel_rfl) (by simp) ?_
        refine AllReadyH.cons (o := ⟨some 81, _, _, _, _, _⟩) rfl (fun K hK => ?_) AllReadyH.nil
        go_simp
        (with_reducible refine (te _ (bstep EE.out F1.out.kp)).mono ?_)
        rintro e w2x ⟨u2, rfl, O2, hb⟩
        have O2 := Lib.hid O2
        have F2 := Lib.hid (F1.out.low hb)
        go_wp2_with fail
        refine hK.out _ _ ?_ (fun hHeld2 => ?_)
        · exact ⟨cell_later hb hHeld.1, cell_later hb hHeld.2⟩
        clear hK K hHeld hb
        have hHeld := hHeld2
        clear hHeld2
        try simp only [Act.put, List.setIfInBounds_toArray, List.set_cons_zero, List.set_cons_succ]
        refine wpAnyH_ready (rs := [3]) (by kernel_rfl) (by simp) ?_
        refine AllReadyH.cons (o := ⟨some 83, _, _, _, _, _⟩) rfl (fun K hK => ?_) AllReadyH.nil
        go_simp
        (with_reducible refine (toId_any x y _).mono ?_)
        rintro e w3x ⟨rfl, hb⟩
        replace O2 := Lib.hid (O2.out.up hb)
        have F3 := Lib.hid (F2.out.low hb)
        go_wp2_with fail
        refine hK.out _ _ ?_ (fun hHeld2 => ?_)
        · exact ⟨cell_later hb hHeld.1, cell_later hb hHeld.2⟩
        clear hK K hHeld hb
        have hHeld := hHeld2
        clear hHeld2
        try simp only [Act.put, List.setIfInBounds_toArray, List.set_cons_zero, List.set_cons_succ]
        refine wpAnyH_ready (rs := [4]) (by kernel_rfl) (by simp) ?_
        refine AllReadyH.cons (o := ⟨some 84, _, _, _, _, _⟩) rfl (fun K hK => ?_) AllReadyH.nil
        go_simp
        have hsz4 := F3.out.kp.size
        have hbx4 := fun b e => lt_of_heap (F3.out.bx b e).2
        (with_reducible refine (iv _ _ O2.out.read).mono ?_)
        rintro e w4x ⟨u4, rfl, O4, hb⟩
        obtain ⟨va, vn, vc, rfl⟩ : ∃ ua un uc, u4 = .slice ua un uc := by obtain ⟨a, c, e, _⟩ := O4.read; exact ⟨a, _, c, e⟩
        have O4 := Lib.hid O4
        have F4 := Lib.hid (F3.out.low hb)
        have hszA := Nat.le_refl w4x.heap.size
        clear O2
        go_wp2_with fail
        refine hK.out _ _ ?_ (fun hHeld2 => ?_)
        · exact ⟨cell_later hb hHeld.1, cell_later hb hHeld.2⟩
        clear hK K hHeld hb
        have hHeld := hHeld2
        clear hHeld2
        try simp only [Act.put, List.setIfInBounds_toArray, List.set_cons_zero, List.set_cons_succ]
        refine wpAnyH_take (i := 5) (oi := ⟨some 79, _, _, _, _, _⟩) (v := ?_) rfl (by kernel_rfl) (by kernel_rfl) (by kernel_rfl) (fun _ _ _ h => h) (Or.inl ⟨by rfl, ?_⟩) (by assumption) ?_
        rotate_left 1
        · intro w hSw; (try dsimp only at hSw); go_simp; try (with_reducible rfl)
        try simp only [Act.put, List.setIfInBounds_toArray, List.set_cons_zero, List.set_cons_succ]
        refine wpAnyH_take (i := 6) (oi := ⟨some 85, _, _, _, _, _⟩) (v := ?_) rfl (by kernel_rfl) (by kernel_rfl) (by kernel_rfl) (fun _ _ _ h => h) (Or.inl ⟨by rfl, ?_⟩) (by assumption) ?_
        rotate_left 1
        · intro w hSw; (try dsimp only at hSw); go_simp; try (with_reducible rfl)
        try simp only [Act.put, List.setIfInBounds_toArray, List.set_cons_zero, List.set_cons_succ]
        refine wpAnyH_take (i := 7) (oi := ⟨some 86, _, _, _, _, _⟩) (v := ?_) rfl (by kernel_rfl) (by kernel_rfl) (by kernel_rfl) (fun _ _ _ h => h) (Or.inl ⟨by rfl, ?_⟩) (by assumption) ?_
        rotate_left 1
        · intro w hSw; (try dsimp only at hSw); go_simp; try (with_reducible rfl)
        try simp only [Act.put, List.setIfInBounds_toArray, List.set_cons_zero, List.set_cons_succ]
        obtain ⟨g0, g1⟩ := F4.out.bx _ rfl
        obtain ⟨⟨n0, n1, n2, n3, n4, n5, n6, n7, n8⟩, ⟨m0, m1, m2, m3, m4, m5, m6, m7, m8⟩, hxl⟩ := nine_all g1
        have hY := F4.out.done (q := q) O4.out hsz4 hszA (by intro h; have := hbx4 _ rfl; have := h.1; omega)
        have hYB : Below w18.heap.size w18 _ := (by obtain ⟨_, _, _, _, _, _, _, _, _, _, h⟩ := hY; exact h)
        have hY := Lib.hid hY
        have hYB := Lib.hid hYB
        clear O4 hbx4
        refine wpAnyH_ready (rs := [9]) (by kernel_rfl) (by simp) ?_
        refine AllReadyH.cons (o := ⟨none, _, _, _, _, _⟩) rfl (fun K hK => ?_) AllReadyH.nil
        go_simp
        refine hK.out _ _ ?_ (fun hHeld2 => ?_)
        · exact ⟨cell_later hYB.out i0, cell_later hYB.out i1⟩
        clear hK K hHeld F4 n0 n1 n2 n3 n4 n5 n6 n7 n8 m0 m1 m2 m3 m4 m5 m6 m7 m8 g0 g1
        have hHeld := hHeld2
        clear hHeld2
        try simp only [Act.put, List.setIfInBounds_toArray, List.set_cons_zero, List.set_cons_succ]
        refine wpAnyH_take (i := 10) (oi := ⟨some 15, _, _, _, _, _⟩) (v := ?_) rfl (by kernel_rfl) (by kernel_rfl) (by kernel_rfl) (fun _ _ _ h => h) (Or.inl ⟨by rfl, ?_⟩) (by assumption) ?_
        rotate_left 1
        · intro w hSw; (try dsimp only at hSw); go_simp; try (with_reducible rfl)
        try simp only [Act.put, List.setIfInBounds_toArray, List.set_cons_zero, List.set_cons_succ]
        refine wpAnyH_done (by kernel_rfl) ?_ _
        try simp only [Act.put, List.setIfInBounds_toArray, List.set_cons_zero, List.set_cons_succ]
        go_wp2_with fail
        go_meet
        exact hY
      case rest =>
        obtain ⟨xb14, u14, B14, T14, rfl, rfl, X14, _, _, _, E14⟩ := hcut.out
        have X14 := Lib.hid X14
        obtain ⟨va14, vn14, vc14, rfl⟩ : ∃ ua un uc, u14 = .slice ua un uc := by obtain ⟨a, c, e, _⟩ := X14.out.2.1.read; exact ⟨a, _, c, e⟩
        replace X6 := Lib.hid (X6.out.up E14)
        replace G9 := Lib.hid (G9.out.up E14)
        replace O9 := Lib.hid (O9.out.up E14)
        replace EE := Lib.hid (bstep EE.out E14)
        clear hcut E14 i0 i1 hI11
        obtain ⟨⟨p0, p1, p2, p3, p4, p5, p6, p7, p8⟩, pl⟩ := X6.out.1.cells
        obtain ⟨⟨r0, r1, r2, r3, r4, r5, r6, r7, r8⟩, rl⟩ := X14.out.1.cells
        go_wp2_with fail
        refine (eqE_any X _ _ _ X14.out.2.1.read X6.out.2.1.read).mono ?_
        rintro e w19 ⟨rfl, B⟩
        replace G9 := Lib.hid (G9.out.up B)
        replace O9 := Lib.hid (O9.out.up B)
        replace EE := Lib.hid (bstep EE.out B)
        clear B p0 p1 p2 p3 p4 p5 p6 p7 p8 pl r0 r1 r2 r3 r4 r5 r6 r7 r8 rl X14 X6
        obtain ⟨⟨r0, r1, r2, r3, r4, r5, r6, r7, r8⟩, rl⟩ := G9.out.cells
        go_wp2_with fail
        refine (heldE_z X _ 1 M _ hMk.out O9.out.read (by omega) (by omega)).mono ?_
        rw [hM.out]
        rintro e w20 ⟨rfl, B⟩
        replace EE := Lib.hid (bstep EE.out B)
        have D2 := Lib.hid (bstep D1.out EE.out)
        clear B
        go_wp2_with fail
        go_ret
        exact ⟨rfl, D2.out⟩
end Go.Proofs.Ytpckhghcjedblaa
