/- Texts laid together. -/
import Derived.Test.YtdikcenhakfheaaGreatDoorC14
import Derived.Test.YtdikcenhakfheaaGreatDoorC29
import Derived.Test.YtdikcenhakfheaaGreatDoorC31
import Derived.Test.YtdikcenhakfheaaGreatDoorC17
import Derived.Test.YtdikcenhakfheaaGreatDoorC23
import Derived.Test.YtdikcenhakfheaaGreatDoorC24
import Derived.Deep.DeepCutAuto
import Derived.Deep.CutBlock
import Derived.Deep.RegionHeld3
/- The walk of FnExactPreAccept. -/
namespace Go.Proofs.YtdikcenhakfheaaGreatDoor
open Go.RowKit
set_option linter.unusedVariables false

theorem LEs.upA {w w' : World} {B : Nat} {a : Option Addr} {len cap : Nat} (h : LEs w a len cap) (hb : Below B w w') (hB : w.heap.size ≤ B) : LEs w' a len cap := by
  obtain ⟨h1, h2, h3⟩ := h
  refine ⟨h1, h2, ?_⟩
  rcases h3 with h3 | ⟨b, off, rfl, hl, hc⟩
  · exact .inl h3
  · refine .inr ⟨b, off, rfl, Nat.lt_of_lt_of_le hl hb.size, fun i hi => ?_⟩
    obtain ⟨x, ua, un, uc, e0, e1, e2, e3, e4, e5, e6, e7, e8, e9, e10⟩ := hc i hi
    have hcc : ∀ o, w'.cell? ⟨b, o, none⟩ = w.cell? ⟨b, o, none⟩ := fun o => hb.cell (p := ⟨b, o, none⟩) (Nat.lt_of_lt_of_le hl hB)
    exact ⟨x, ua, un, uc, by rw [hcc]; exact e0, by rw [hcc]; exact e1, by rw [hcc]; exact e2, by rw [hcc]; exact e3, by rw [hcc]; exact e4, by rw [hcc]; exact e5, by rw [hcc]; exact e6, by rw [hcc]; exact e7, by rw [hcc]; exact e8, e9, e10.imp id fun ⟨C, hC⟩ => ⟨C, hC.up hb hB⟩⟩
theorem preR_deps {E : List En} {X : En} : ∀ i, i < (preR E X).1.length → ((preR E X).1.getD i en0).deps.length ≤ 12 := by
  intro i hi
  cases h : (preR E X).2.2 with
  | true =>
    obtain ⟨h1, _, _, _, h2, _, h4, h5⟩ := pre_is h
    rw [h2] at hi ⊢
    have hv := putE_valid h1 h4 h5
    exact (srt_of (enB_of ((log_of hv).2.1 _ (enD_mem hi))).2.2.1).1
  | false =>
    exfalso
    have e : (preR E X).1 = [] := by
      unfold preR PpR at h ⊢
      split
      · split
        · rename_i a b; rw [if_pos a, if_pos b] at h; cases h
        · rfl
      · rfl
    rw [e] at hi; exact absurd hi (by simp)

set_option maxRecDepth 100000 in
set_option maxHeartbeats 16000000 in
theorem exPreAccept_any (a : Option Addr) (len cap : Nat) (p r bal st k key v s : Int) (ua : Option Addr) (un uc : Nat) (w : World) (h : LEs w a len cap) (hun : un ≤ maxLen) (hid : 1048576 < un ∨ ∃ C, Ids w (.slice ua un uc) C) (hT : TabIn w) :
    Calls Tryz.prog 7 #[.slice a len cap, .agg #[.int .i64 p, .int .i64 r, .int .i64 bal, .int .i64 st, .int .i64 k, .int .i64 key, .int .i64 v, .int .i64 s, .slice ua un uc]] w fun e w' => e = .returned (.bool true) ∧ Below w.heap.size w w' := by
  have D0 := (Below.refl w.heap.size w).alloc (Nat.le_refl _) (.cells #[.int .i64 p, .int .i64 r, .int .i64 bal, .int .i64 st, .int .i64 k, .int .i64 key, .int .i64 v, .int .i64 s, .slice ua un uc] 58)
  have sz := szEb_any a len cap _ (h.upA D0 (Nat.le_refl _))
  have A0 := Lib.hid (heap_alloc_new w (.cells #[.int .i64 p, .int .i64 r, .int .i64 bal, .int .i64 st, .int .i64 k, .int .i64 key, .int .i64 v, .int .i64 s, .slice ua un uc] 58))
  have hT := Lib.hid (TabIn.up hT D0 (Nat.le_refl _))
  have D0 := Lib.hid D0
  have hid := Lib.hid hid
  have hun2 : un ≤ 9223372036854775807 := by simpa [maxLen] using hun
  clear h
  go_enter Tryz.func7, Tryz.ntmps7
  go_wp2_with fail
  refine sz.mono ?_
  rintro e w1 ⟨⟨z, rfl, hz⟩, B⟩
  have D1 := Lib.hid (bstep D0.out B)
  have A1 := Lib.hid (bblk B (by simp) A0.out)
  replace hT := Lib.hid (TabIn.up hT.out B (Nat.le_refl _))
  rcases hz with rfl | ⟨hz0, hz1, E, hEl, hE⟩
  · clear B sz D0 A0 A1
    go_wp2_with fail
    go_ret
    exact ⟨rfl, D1.out⟩
  · have hzn : ¬ z < 0 := by omega
    replace hE := Lib.hid (hE.up B (Nat.le_refl _))
    clear B sz D0 A0
    obtain ⟨⟨y0, y1, y2, y3, y4, y5, y6, y7, y8⟩, _, ys⟩ := nine_all A1.out
    have sy := fun W => szE_any p r bal st k key v s ua un uc z W hz0 hz1 hun2
    by_cases hlu : z < un
    · rw [if_pos hlu] at sy
      go_wp2_with fail
      refine (sy _).mono ?_
      rintro e w2 ⟨rfl, B⟩
      replace D1 := Lib.hid (bstep D1.out B)
      clear B sy y0 y1 y2 y3 y4 y5 y6 y7 y8 ys
      go_wp2_with fail
      go_ret
      exact ⟨rfl, D1.out⟩
    · rw [if_neg hlu] at sy
      obtain ⟨zy, hzy⟩ : ∃ q, z - (un : Int) = q := ⟨_, rfl⟩
      rw [hzy] at sy
      have hzy0 : ¬ zy < 0 := by omega
      obtain ⟨C, hC⟩ := hid.out.resolve_left (by omega)
      obtain ⟨X, e0, e1, e2, e3, e4, e5, e6, e7, e8⟩ : ∃ X : En, X.id.1 = p ∧ X.id.2 = r ∧ X.bal = bal ∧ X.st = st ∧ X.k = k ∧ X.key = key ∧ X.v = v ∧ X.seq = s ∧ X.deps = C := ⟨⟨(p, r), bal, st, k, key, v, s, C⟩, rfl, rfl, rfl, rfl, rfl, rfl, rfl, rfl, rfl⟩
      subst e0 e1 e2 e3 e4 e5 e6 e7 e8
      replace hC := Lib.hid (hC.up D1.out (Nat.le_refl _))
      clear hlu hzy hid
      go_wp2_with fail
      refine (sy _).mono ?_
      rintro e w2 ⟨rfl, B⟩
      replace D1 := Lib.hid (bstep D1.out B)
      replace A1 := Lib.hid (bblk B (lt_of_heap A1.out) A1.out)
      replace hC := Lib.hid (hC.out.up B (Nat.le_refl _))
      replace hE := Lib.hid (hE.out.up B (Nat.le_refl _))
      replace hT := Lib.hid (TabIn.up hT.out B (Nat.le_refl _))
      clear B sy y0 y1 y2 y3 y4 y5 y6 y7 y8 ys
      go_upto_region 8 with fail
      obtain ⟨⟨N, Y, q⟩, hR⟩ : ∃ r, preR E X = r := ⟨_, rfl⟩
      have hN12 : N.length ≤ 12 := by have := preR_len E X; rw [hR] at this; exact this
      have hNd : Hid (∀ i, i < N.length → (N.getD i en0).deps.length ≤ 12) := Lib.hid (by have := preR_deps (E := E) (X := X); rw [hR] at this; exact this)
      have te := fun W (hb : Below w2.heap.size w2 W) => toEs_any _ E W (hE.out.up hb (Nat.le_refl _))
      have tx := fun W (hb : Below w2.heap.size w2 W) => toE_any X (.slice ua un uc) W (hC.out.up hb (Nat.le_refl _))
      have sp := fun (u x : Value) (W : World) (H : Ens W u E) (H2 : Ids W x X.deps) => show Calls Tryz.prog 10 #[u, .agg #[.int .i64 X.id.1, .int .i64 X.id.2, .int .i64 X.bal, .int .i64 X.st, .int .i64 X.k, .int .i64 X.key, .int .i64 X.v, .int .i64 X.seq, x]] W (RsP N Y q W) from (sprez_any u x E X W H H2).mono fun e w' h => by rw [hR] at h; exact rs_m h
      have ir := fun (u x : Value) (W : World) (hT : TabIn W) (H : Ens W u E) (H2 : Ids W x X.deps) => show Calls Tryz.prog 9 #[u, .agg #[.int .i64 X.id.1, .int .i64 X.id.2, .int .i64 X.bal, .int .i64 X.st, .int .i64 X.k, .int .i64 X.key, .int .i64 X.v, .int .i64 X.seq, x]] W (RsP N Y q W) from (ipre_any u x E X W hT H H2).mono fun e w' h => by rw [hR] at h; exact rs_p h
      have ip := fun (u x : Value) (W : World) (hT : TabIn W) (H : Ens W u E) (H2 : Ids W x X.deps) => ipre_any u x E X W hT H H2
      unfold EnsCPost at te
      unfold EnCPost at tx
      unfold PrP at ip
      rw [hR] at ip
      dsimp only at ip
      unfold env at ip tx
      obtain ⟨ib, hib⟩ : ∃ ib, Hid (w.heap.size = ib) := ⟨_, Lib.hid rfl⟩
      rw [hib.out] at A1 ⊢
      have hil := lt_of_heap A1.out
      obtain ⟨⟨i0, i1, i2, i3, i4, i5, i6, i7, i8⟩, _, _⟩ := nine_all A1.out
      have E0 := Lib.hid (Below.refl w2.heap.size w2)
      clear hE hC hR hEl hib
      go_cut [6, 7, 8] from 30 to 38 (fun s6 s7 s8 wx => Hid (PrQ N Y q w2 s6 s7 s8 wx))
      case first =>
        clear ir ip
        have F0 := Lib.hid (FE.start (w0 := w2))
        refine wp_region_held_drew (S := fun w' => w'.cell? ⟨ib, 0, none⟩ = some (.int .i64 X.id.1) ∧ w'.cell? ⟨ib, 1, none⟩ = some (.int .i64 X.id.2) ∧ w'.cell? ⟨ib, 2, none⟩ = some (.int .i64 X.bal) ∧ w'.cell? ⟨ib, 3, none⟩ = some (.int .i64 X.st) ∧ w'.cell? ⟨ib, 4, none⟩ = some (.int .i64 X.k) ∧ w'.cell? ⟨ib, 5, none⟩ = some (.int .i64 X.key) ∧ w'.cell? ⟨ib, 6, none⟩ = some (.int .i64 X.v) ∧ w'.cell? ⟨ib, 7, none⟩ = some (.int .i64 X.seq) ∧ w'.cell? ⟨ib, 8, none⟩ = some (.slice ua un uc)) (by kernel_rfl) ⟨i0, i1, i2, i3, i4, i5, i6, i7, i8⟩ (fun hHeld => ?_)
        generalize w2.drew = V0 at F0 hHeld ⊢
        refine wpAnyH_take (i := 0) (oi := ⟨some 31, _, _, _, _, _⟩) (v := ?_) rfl (by kernel_rfl) (by kernel_rfl) (by kernel_rfl) (fun _ _ _ h => h) (Or.inl ⟨by rfl, ?_⟩) (by assumption) ?_
        rotate_left 1
        · intro w hSw; (try dsimp only at hSw); go_simp; try (with_reducible rfl)
        try simp only [Act.put, List.setIfInBounds_toArray, List.set_cons_zero, List.set_cons_succ]
        refine wpAnyH_take (i := 2) (oi := ⟨some 33, _, _, _, _, _⟩) (v := ?_) rfl (by kernel_rfl) (by kernel_rfl) (by kernel_rfl) (fun _ _ _ h => h) (Or.inl ⟨by rfl, ?_⟩) (by assumption) ?_
        rotate_left 1
        · intro w hSw; (try dsimp only at hSw); go_simp; try (with_reducible rfl)
        try simp only [Act.put, List.setIfInBounds_toArray, List.set_cons_zero, List.set_cons_succ]
        refine wpAnyH_ready (rs := [1, 9]) (by kernel_rfl) (by simp) ?_
        refine AllReadyH.cons (o := ⟨some 32, _, _, _, _, _⟩) rfl (fun K hK => ?_) ?_
        · go_simp
          (with_reducible refine (te _ (bstep E0.out F0.out.kp)).mono ?_)
          rintro e w2x ⟨u2, rfl, O2, hb⟩
          have O2 := Lib.hid O2
          have F1 := Lib.hid (F0.out.low hb)
          go_wp2_with fail
          refine hK.out _ _ ?_ (fun hHeld2 => ?_)
          · exact ⟨cell_later hb hHeld.1, cell_later hb hHeld.2.1, cell_later hb hHeld.2.2.1, cell_later hb hHeld.2.2.2.1, cell_later hb hHeld.2.2.2.2.1, cell_later hb hHeld.2.2.2.2.2.1, cell_later hb hHeld.2.2.2.2.2.2.1, cell_later hb hHeld.2.2.2.2.2.2.2.1, cell_later hb hHeld.2.2.2.2.2.2.2.2⟩
          clear hK K hHeld hb
          have hHeld := hHeld2
          clear hHeld2
          try simp only [Act.put, List.setIfInBounds_toArray, List.set_cons_zero, List.set_cons_succ]
          refine wpAnyH_ready (rs := [3, 9]) (by kernel_rfl) (by simp) ?_
          refine AllReadyH.cons (o := ⟨some 34, _, _, _, _, _⟩) rfl (fun K hK => ?_) ?_
          · go_simp
            (with_reducible refine (tx _ (bstep E0.out F1.out.kp)).mono ?_)
            rintro e w3x ⟨bp2, p2, _, rfl, P2, hb⟩
            obtain ⟨pn2, rfl⟩ : ∃ pc, p2 = .slice (some ⟨bp2, 0, none⟩) X.deps.length pc := by obtain ⟨c, e, _⟩ := P2.shape; exact ⟨_, e⟩
            have P2 := Lib.hid P2
            replace O2 := Lib.hid (O2.out.up hb)
            have F2 := Lib.hid (F1.out.low hb)
            go_wp2_with fail
            refine hK.out _ _ ?_ (fun hHeld2 => ?_)
            · exact ⟨cell_later hb hHeld.1, cell_later hb hHeld.2.1, cell_later hb hHeld.2.2.1, cell_later hb hHeld.2.2.2.1, cell_later hb hHeld.2.2.2.2.1, cell_later hb hHeld.2.2.2.2.2.1, cell_later hb hHeld.2.2.2.2.2.2.1, cell_later hb hHeld.2.2.2.2.2.2.2.1, cell_later hb hHeld.2.2.2.2.2.2.2.2⟩
            clear hK K hHeld hb
            have hHeld := hHeld2
            clear hHeld2
            try simp only [Act.put, List.setIfInBounds_toArray, List.set_cons_zero, List.set_cons_succ]
            refine wpAnyH_ready (rs := [4, 9]) (by kernel_rfl) (by simp) ?_
            refine AllReadyH.cons (o := ⟨some 35, _, _, _, _, _⟩) rfl (fun K hK => ?_) ?_
            · go_simp
              have hbx4 := fun b e => lt_of_heap (F2.out.bx b e).2
              (with_reducible refine (sp _ _ _ O2.out.read P2.out.read).mono ?_)
              rintro e w4x ⟨g4, c4, a4, m4, d4, rfl, R4, hb⟩
              unfold env
              have R4 := Lib.hid R4
              have F3 := Lib.hid (F2.out.low hb)
              clear O2 P2
              go_wp2_with fail
              refine hK.out _ _ ?_ (fun hHeld2 => ?_)
              · exact ⟨cell_later hb hHeld.1, cell_later hb hHeld.2.1, cell_later hb hHeld.2.2.1, cell_later hb hHeld.2.2.2.1, cell_later hb hHeld.2.2.2.2.1, cell_later hb hHeld.2.2.2.2.2.1, cell_later hb hHeld.2.2.2.2.2.2.1, cell_later hb hHeld.2.2.2.2.2.2.2.1, cell_later hb hHeld.2.2.2.2.2.2.2.2⟩
              clear hK K hHeld hb
              have hHeld := hHeld2
              clear hHeld2
              try simp only [Act.put, List.setIfInBounds_toArray, List.set_cons_zero, List.set_cons_succ]
              refine wpAnyH_take (i := 5) (oi := ⟨some 30, _, _, _, _, _⟩) (v := ?_) rfl (by kernel_rfl) (by kernel_rfl) (by kernel_rfl) (fun _ _ _ h => h) (Or.inl ⟨by rfl, ?_⟩) (by assumption) ?_
              rotate_left 1
              · intro w hSw; (try dsimp only at hSw); go_simp; try (with_reducible rfl)
              try simp only [Act.put, List.setIfInBounds_toArray, List.set_cons_zero, List.set_cons_succ]
              refine wpAnyH_take (i := 6) (oi := ⟨some 36, _, _, _, _, _⟩) (v := ?_) rfl (by kernel_rfl) (by kernel_rfl) (by kernel_rfl) (fun _ _ _ h => h) (Or.inl ⟨by rfl, ?_⟩) (by assumption) ?_
              rotate_left 1
              · intro w hSw; (try dsimp only at hSw); go_simp; try (with_reducible rfl)
              try simp only [Act.put, List.setIfInBounds_toArray, List.set_cons_zero, List.set_cons_succ]
              refine wpAnyH_take (i := 7) (oi := ⟨some 37, _, _, _, _, _⟩) (v := ?_) rfl (by kernel_rfl) (by kernel_rfl) (by kernel_rfl) (fun _ _ _ h => h) (Or.inl ⟨by rfl, ?_⟩) (by assumption) ?_
              rotate_left 1
              · intro w hSw; (try dsimp only at hSw); go_simp; try (with_reducible rfl)
              try simp only [Act.put, List.setIfInBounds_toArray, List.set_cons_zero, List.set_cons_succ]
              refine wpAnyH_take (i := 8) (oi := ⟨some 38, _, _, _, _, _⟩) (v := ?_) rfl (by kernel_rfl) (by kernel_rfl) (by kernel_rfl) (fun _ _ _ h => h) (Or.inl ⟨by rfl, ?_⟩) (by assumption) ?_
              rotate_left 1
              · intro w hSw; (try dsimp only at hSw); go_simp; try (with_reducible rfl)
              try simp only [Act.put, List.setIfInBounds_toArray, List.set_cons_zero, List.set_cons_succ]
              refine wpAnyH_ready (rs := [9]) (by kernel_rfl) (by simp) ?_
              refine AllReadyH.cons (o := ⟨some 7, _, _, _, _, _⟩) rfl (fun K hK => ?_) AllReadyH.nil
              have F4 := Lib.hid F3.out.box
              have BA := (Below.refl w4x.heap.size w4x).alloc (Nat.le_refl _) (.cells #[.int .i64 0, .int .i64 0, .int .i64 0, .int .i64 0, .int .i64 0, .int .i64 0, .int .i64 0, .int .i64 0, .slice none 0 0] 30)
              replace R4 := Lib.hid (R4.out.up BA)
              go_simp
              generalize (w4x.alloc (.cells #[.int .i64 0, .int .i64 0, .int .i64 0, .int .i64 0, .int .i64 0, .int .i64 0, .int .i64 0, .int .i64 0, .slice none 0 0] 30)) = V4 at F4 BA R4 ⊢
              refine hK.out _ _ ?_ (fun hHeld2 => ?_)
              · exact ⟨cell_later BA hHeld.1, cell_later BA hHeld.2.1, cell_later BA hHeld.2.2.1, cell_later BA hHeld.2.2.2.1, cell_later BA hHeld.2.2.2.2.1, cell_later BA hHeld.2.2.2.2.2.1, cell_later BA hHeld.2.2.2.2.2.2.1, cell_later BA hHeld.2.2.2.2.2.2.2.1, cell_later BA hHeld.2.2.2.2.2.2.2.2⟩
              clear hK K hHeld BA
              have hHeld := hHeld2
              clear hHeld2
              try simp only [Act.put, List.setIfInBounds_toArray, List.set_cons_zero, List.set_cons_succ]
              obtain ⟨g0, g1⟩ := F4.out.bx _ rfl
              obtain ⟨⟨n0, n1, n2, n3, n4, n5, n6, n7, n8⟩, ⟨m0, m1, m2, m3, m4, m5, m6, m7, m8⟩, hxl⟩ := nine_all g1
              have hY := F4.out.doneP (q := q) R4.out (by intro h; have := h.2; omega)
              have hYB : Below w2.heap.size w2 _ := (by obtain ⟨_, _, _, _, _, _, _, _, _, _, _, _, _, h⟩ := hY; exact h)
              have hY := Lib.hid hY
              have hYB := Lib.hid hYB
              clear R4 hbx4
              refine wpAnyH_take (i := 10) (oi := ⟨some 6, _, _, _, _, _⟩) (v := ?_) rfl (by kernel_rfl) (by kernel_rfl) (by kernel_rfl) (fun _ _ _ h => h) (Or.inl ⟨by rfl, ?_⟩) (by assumption) ?_
              rotate_left 1
              · intro w hSw; (try dsimp only at hSw); go_simp; try (with_reducible rfl)
              try simp only [Act.put, List.setIfInBounds_toArray, List.set_cons_zero, List.set_cons_succ]
              refine wpAnyH_ready (rs := [11]) (by kernel_rfl) (by simp) ?_
              refine AllReadyH.cons (o := ⟨none, _, _, _, _, _⟩) rfl (fun K hK => ?_) AllReadyH.nil
              go_simp
              refine hK.out _ _ ?_ (fun hHeld2 => ?_)
              · exact ⟨cell_later hYB.out i0, cell_later hYB.out i1, cell_later hYB.out i2, cell_later hYB.out i3, cell_later hYB.out i4, cell_later hYB.out i5, cell_later hYB.out i6, cell_later hYB.out i7, cell_later hYB.out i8⟩
              clear hK K hHeld F4 n0 n1 n2 n3 n4 n5 n6 n7 n8 m0 m1 m2 m3 m4 m5 m6 m7 m8 g0 g1
              have hHeld := hHeld2
              clear hHeld2
              try simp only [Act.put, List.setIfInBounds_toArray, List.set_cons_zero, List.set_cons_succ]
              refine wpAnyH_take (i := 12) (oi := ⟨some 8, _, _, _, _, _⟩) (v := ?_) rfl (by kernel_rfl) (by kernel_rfl) (by kernel_rfl) (fun _ _ _ h => h) (Or.inl ⟨by rfl, ?_⟩) (by assumption) ?_
              rotate_left 1
              · intro w hSw; (try dsimp only at hSw); go_simp; try (with_reducible rfl)
              try simp only [Act.put, List.setIfInBounds_toArray, List.set_cons_zero, List.set_cons_succ]
              refine wpAnyH_done (by kernel_rfl) ?_ _
              try simp only [Act.put, List.setIfInBounds_toArray, List.set_cons_zero, List.set_cons_succ]
              go_wp2_with fail
              go_meet
              exact hY
            refine AllReadyH.cons (o := ⟨some 7, _, _, _, _, _⟩) rfl (fun K hK => ?_) AllReadyH.nil
            have F3 := Lib.hid F2.out.box
            have BA := (Below.refl w3x.heap.size w3x).alloc (Nat.le_refl _) (.cells #[.int .i64 0, .int .i64 0, .int .i64 0, .int .i64 0, .int .i64 0, .int .i64 0, .int .i64 0, .int .i64 0, .slice none 0 0] 30)
            replace O2 := Lib.hid (O2.out.up BA)
            replace P2 := Lib.hid (P2.out.up BA P2.out.lt)
            go_simp
            generalize (w3x.alloc (.cells #[.int .i64 0, .int .i64 0, .int .i64 0, .int .i64 0, .int .i64 0, .int .i64 0, .int .i64 0, .int .i64 0, .slice none 0 0] 30)) = V3 at F3 BA O2 P2 ⊢
            refine hK.out _ _ ?_ (fun hHeld2 => ?_)
            · exact ⟨cell_later BA hHeld.1, cell_later BA hHeld.2.1, cell_later BA hHeld.2.2.1, cell_later BA hHeld.2.2.2.1, cell_later BA hHeld.2.2.2.2.1, cell_later BA hHeld.2.2.2.2.2.1, cell_later BA hHeld.2.2.2.2.2.2.1, cell_later BA hHeld.2.2.2.2.2.2.2.1, cell_later BA hHeld.2.2.2.2.2.2.2.2⟩
            clear hK K hHeld BA
            have hHeld := hHeld2
            clear hHeld2
            try simp only [Act.put, List.setIfInBounds_toArray, List.set_cons_zero, List.set_cons_succ]
            refine wpAnyH_ready (rs := [4]) (by kernel_rfl) (by simp) ?_
            refine AllReadyH.cons (o := ⟨some 35, _, _, _, _, _⟩) rfl (fun K hK => ?_) AllReadyH.nil
            go_simp
            have hbx4 := fun b e => lt_of_heap (F3.out.bx b e).2
            (with_reducible refine (sp _ _ _ O2.out.read P2.out.read).mono ?_)
            rintro e w4x ⟨g4, c4, a4, m4, d4, rfl, R4, hb⟩
            unfold env
            have R4 := Lib.hid R4
            have F4 := Lib.hid (F3.out.low hb)
            clear O2 P2
            go_wp2_with fail
            refine hK.out _ _ ?_ (fun hHeld2 => ?_)
            · exact ⟨cell_later hb hHeld.1, cell_later hb hHeld.2.1, cell_later hb hHeld.2.2.1, cell_later hb hHeld.2.2.2.1, cell_later hb hHeld.2.2.2.2.1, cell_later hb hHeld.2.2.2.2.2.1, cell_later hb hHeld.2.2.2.2.2.2.1, cell_later hb hHeld.2.2.2.2.2.2.2.1, cell_later hb hHeld.2.2.2.2.2.2.2.2⟩
            clear hK K hHeld hb
            have hHeld := hHeld2
            clear hHeld2
            try simp only [Act.put, List.setIfInBounds_toArray, List.set_cons_zero, List.set_cons_succ]
            refine wpAnyH_take (i := 5) (oi := ⟨some 30, _, _, _, _, _⟩) (v := ?_) rfl (by kernel_rfl) (by kernel_rfl) (by kernel_rfl) (fun _ _ _ h => h) (Or.inl ⟨by rfl, ?_⟩) (by assumption) ?_
            rotate_left 1
            · intro w hSw; (try dsimp only at hSw); go_simp; try (with_reducible rfl)
            try simp only [Act.put, List.setIfInBounds_toArray, List.set_cons_zero, List.set_cons_succ]
            refine wpAnyH_take (i := 6) (oi := ⟨some 36, _, _, _, _, _⟩) (v := ?_) rfl (by kernel_rfl) (by kernel_rfl) (by kernel_rfl) (fun _ _ _ h => h) (Or.inl ⟨by rfl, ?_⟩) (by assumption) ?_
            rotate_left 1
            · intro w hSw; (try dsimp only at hSw); go_simp; try (with_reducible rfl)
            try simp only [Act.put, List.setIfInBounds_toArray, List.set_cons_zero, List.set_cons_succ]
            refine wpAnyH_take (i := 7) (oi := ⟨some 37, _, _, _, _, _⟩) (v := ?_) rfl (by kernel_rfl) (by kernel_rfl) (by kernel_rfl) (fun _ _ _ h => h) (Or.inl ⟨by rfl, ?_⟩) (by assumption) ?_
            rotate_left 1
            · intro w hSw; (try dsimp only at hSw); go_simp; try (with_reducible rfl)
            try simp only [Act.put, List.setIfInBounds_toArray, List.set_cons_zero, List.set_cons_succ]
            refine wpAnyH_take (i := 8) (oi := ⟨some 38, _, _, _, _, _⟩) (v := ?_) rfl (by kernel_rfl) (by kernel_rfl) (by kernel_rfl) (fun _ _ _ h => h) (Or.inl ⟨by rfl, ?_⟩) (by assumption) ?_
            rotate_left 1
            · intro w hSw; (try dsimp only at hSw); go_simp; try (with_reducible rfl)
            try simp only [Act.put, List.setIfInBounds_toArray, List.set_cons_zero, List.set_cons_succ]
            obtain ⟨g0, g1⟩ := F4.out.bx _ rfl
            obtain ⟨⟨n0, n1, n2, n3, n4, n5, n6, n7, n8⟩, ⟨m0, m1, m2, m3, m4, m5, m6, m7, m8⟩, hxl⟩ := nine_all g1
            have hY := F4.out.doneP (q := q) R4.out (by intro h; have := hbx4 _ rfl; have := h.1; omega)
            have hYB : Below w2.heap.size w2 _ := (by obtain ⟨_, _, _, _, _, _, _, _, _, _, _, _, _, h⟩ := hY; exact h)
            have hY := Lib.hid hY
            have hYB := Lib.hid hYB
            clear R4 hbx4
            refine wpAnyH_take (i := 10) (oi := ⟨some 6, _, _, _, _, _⟩) (v := ?_) rfl (by kernel_rfl) (by kernel_rfl) (by kernel_rfl) (fun _ _ _ h => h) (Or.inl ⟨by rfl, ?_⟩) (by assumption) ?_
            rotate_left 1
            · intro w hSw; (try dsimp only at hSw); go_simp; try (with_reducible rfl)
            try simp only [Act.put, List.setIfInBounds_toArray, List.set_cons_zero, List.set_cons_succ]
            refine wpAnyH_ready (rs := [11]) (by kernel_rfl) (by simp) ?_
            refine AllReadyH.cons (o := ⟨none, _, _, _, _, _⟩) rfl (fun K hK => ?_) AllReadyH.nil
            go_simp
            refine hK.out _ _ ?_ (fun hHeld2 => ?_)
            · exact ⟨cell_later hYB.out i0, cell_later hYB.out i1, cell_later hYB.out i2, cell_later hYB.out i3, cell_later hYB.out i4, cell_later hYB.out i5, cell_later hYB.out i6, cell_later hYB.out i7, cell_later hYB.out i8⟩
            clear hK K hHeld F4 n0 n1 n2 n3 n4 n5 n6 n7 n8 m0 m1 m2 m3 m4 m5 m6 m7 m8 g0 g1
            have hHeld := hHeld2
            clear hHeld2
            try simp only [Act.put, List.setIfInBounds_toArray, List.set_cons_zero, List.set_cons_succ]
            refine wpAnyH_take (i := 12) (oi := ⟨some 8, _, _, _, _, _⟩) (v := ?_) rfl (by kernel_rfl) (by kernel_rfl) (by kernel_rfl) (fun _ _ _ h => h) (Or.inl ⟨by rfl, ?_⟩) (by assumption) ?_
            rotate_left 1
            · intro w hSw; (try dsimp only at hSw); go_simp; try (with_reducible rfl)
            try simp only [Act.put, List.setIfInBounds_toArray, List.set_cons_zero, List.set_cons_succ]
            refine wpAnyH_done (by kernel_rfl) ?_ _
            try simp only [Act.put, List.setIfInBounds_toArray, List.set_cons_zero, List.set_cons_succ]
            go_wp2_with fail
            go_meet
            exact hY
          refine AllReadyH.cons (o := ⟨some 7, _, _, _, _, _⟩) rfl (fun K hK => ?_) AllReadyH.nil
          have F2 := Lib.hid F1.out.box
          have BA := (Below.refl w2x.heap.size w2x).alloc (Nat.le_refl _) (.cells #[.int .i64 0, .int .i64 0, .int .i64 0, .int .i64 0, .int .i64 0, .int .i64 0, .int .i64 0, .int .i64 0, .slice none 0 0] 30)
          replace O2 := Lib.hid (O2.out.up BA)
          go_simp
          generalize (w2x.alloc (.cells #[.int .i64 0, .int .i64 0, .int .i64 0, .int .i64 0, .int .i64 0, .int .i64 0, .int .i64 0, .int .i64 0, .slice none 0 0] 30)) = V2 at F2 BA O2 ⊢
          refine hK.out _ _ ?_ (fun hHeld2 => ?_)
          · exact ⟨cell_later BA hHeld.1, cell_later BA hHeld.2.1, cell_later BA hHeld.2.2.1, cell_later BA hHeld.2.2.2.1, cell_later BA hHeld.2.2.2.2.1, cell_later BA hHeld.2.2.2.2.2.1, cell_later BA hHeld.2.2.2.2.2.2.1, cell_later BA hHeld.2.2.2.2.2.2.2.1, cell_later BA hHeld.2.2.2.2.2.2.2.2⟩
          clear hK K hHeld BA
          have hHeld := hHeld2
          clear hHeld2
          try simp only [Act.put, List.setIfInBounds_toArray, List.set_cons_zero, List.set_cons_succ]
          refine wpAnyH_ready (rs := [3]) (by kernel_rfl) (by simp) ?_
          refine AllReadyH.cons (o := ⟨some 34, _, _, _, _, _⟩) rfl (fun K hK => ?_) AllReadyH.nil
          go_simp
          (with_reducible refine (tx _ (bstep E0.out F2.out.kp)).mono ?_)
          rintro e w3x ⟨bp2, p2, _, rfl, P2, hb⟩
          obtain ⟨pn2, rfl⟩ : ∃ pc, p2 = .slice (some ⟨bp2, 0, none⟩) X.deps.length pc := by obtain ⟨c, e, _⟩ := P2.shape; exact ⟨_, e⟩
          have P2 := Lib.hid P2
          replace O2 := Lib.hid (O2.out.up hb)
          have F3 := Lib.hid (F2.out.low hb)
          go_wp2_with fail
          refine hK.out _ _ ?_ (fun hHeld2 => ?_)
          · exact ⟨cell_later hb hHeld.1, cell_later hb hHeld.2.1, cell_later hb hHeld.2.2.1, cell_later hb hHeld.2.2.2.1, cell_later hb hHeld.2.2.2.2.1, cell_later hb hHeld.2.2.2.2.2.1, cell_later hb hHeld.2.2.2.2.2.2.1, cell_later hb hHeld.2.2.2.2.2.2.2.1, cell_later hb hHeld.2.2.2.2.2.2.2.2⟩
          clear hK K hHeld hb
          have hHeld := hHeld2
          clear hHeld2
          try simp only [Act.put, List.setIfInBounds_toArray, List.set_cons_zero, List.set_cons_succ]
          refine wpAnyH_ready (rs := [4]) (by kernel_rfl) (by simp) ?_
          refine AllReadyH.cons (o := ⟨some 35, _, _, _, _, _⟩) rfl (fun K hK => ?_) AllReadyH.nil
          go_simp
          have hbx4 := fun b e => lt_of_heap (F3.out.bx b e).2
          (with_reducible refine (sp _ _ _ O2.out.read P2.out.read).mono ?_)
          rintro e w4x ⟨g4, c4, a4, m4, d4, rfl, R4, hb⟩
          unfold env
          have R4 := Lib.hid R4
          have F4 := Lib.hid (F3.out.low hb)
          clear O2 P2
          go_wp2_with fail
          refine hK.out _ _ ?_ (fun hHeld2 => ?_)
          · exact ⟨cell_later hb hHeld.1, cell_later hb hHeld.2.1, cell_later hb hHeld.2.2.1, cell_later hb hHeld.2.2.2.1, cell_later hb hHeld.2.2.2.2.1, cell_later hb hHeld.2.2.2.2.2.1, cell_later hb hHeld.2.2.2.2.2.2.1, cell_later hb hHeld.2.2.2.2.2.2.2.1, cell_later hb hHeld.2.2.2.2.2.2.2.2⟩
          clear hK K hHeld hb
          have hHeld := hHeld2
          clear hHeld2
          try simp only [Act.put, List.setIfInBounds_toArray, List.set_cons_zero, List.set_cons_succ]
          refine wpAnyH_take (i := 5) (oi := ⟨some 30, _, _, _, _, _⟩) (v := ?_) rfl (by kernel_rfl) (by kernel_rfl) (by kernel_rfl) (fun _ _ _ h => h) (Or.inl ⟨by rfl, ?_⟩) (by assumption) ?_
          rotate_left 1
          · intro w hSw; (try dsimp only at hSw); go_simp; try (with_reducible rfl)
          try simp only [Act.put, List.setIfInBounds_toArray, List.set_cons_zero, List.set_cons_succ]
          refine wpAnyH_take (i := 6) (oi := ⟨some 36, _, _, _, _, _⟩) (v := ?_) rfl (by kernel_rfl) (by kernel_rfl) (by kernel_rfl) (fun _ _ _ h => h) (Or.inl ⟨by rfl, ?_⟩) (by assumption) ?_
          rotate_left 1
          · intro w hSw; (try dsimp only at hSw); go_simp; try (with_reducible rfl)
          try simp only [Act.put, List.setIfInBounds_toArray, List.set_cons_zero, List.set_cons_succ]
          refine wpAnyH_take (i := 7) (oi := ⟨some 37, _, _, _, _, _⟩) (v := ?_) rfl (by kernel_rfl) (by kernel_rfl) (by kernel_rfl) (fun _ _ _ h => h) (Or.inl ⟨by rfl, ?_⟩) (by assumption) ?_
          rotate_left 1
          · intro w hSw; (try dsimp only at hSw); go_simp; try (with_reducible rfl)
          try simp only [Act.put, List.setIfInBounds_toArray, List.set_cons_zero, List.set_cons_succ]
          refine wpAnyH_take (i := 8) (oi := ⟨some 38, _, _, _, _, _⟩) (v := ?_) rfl (by kernel_rfl) (by kernel_rfl) (by kernel_rfl) (fun _ _ _ h => h) (Or.inl ⟨by rfl, ?_⟩) (by assumption) ?_
          rotate_left 1
          · intro w hSw; (try dsimp only at hSw); go_simp; try (with_reducible rfl)
          try simp only [Act.put, List.setIfInBounds_toArray, List.set_cons_zero, List.set_cons_succ]
          obtain ⟨g0, g1⟩ := F4.out.bx _ rfl
          obtain ⟨⟨n0, n1, n2, n3, n4, n5, n6, n7, n8⟩, ⟨m0, m1, m2, m3, m4, m5, m6, m7, m8⟩, hxl⟩ := nine_all g1
          have hY := F4.out.doneP (q := q) R4.out (by intro h; have := hbx4 _ rfl; have := h.1; omega)
          have hYB : Below w2.heap.size w2 _ := (by obtain ⟨_, _, _, _, _, _, _, _, _, _, _, _, _, h⟩ := hY; exact h)
          have hY := Lib.hid hY
          have hYB := Lib.hid hYB
          clear R4 hbx4
          refine wpAnyH_take (i := 10) (oi := ⟨some 6, _, _, _, _, _⟩) (v := ?_) rfl (by kernel_rfl) (by kernel_rfl) (by kernel_rfl) (fun _ _ _ h => h) (Or.inl ⟨by rfl, ?_⟩) (by assumption) ?_
          rotate_left 1
          · intro w hSw; (try dsimp only at hSw); go_simp; try (with_reducible rfl)
          try simp only [Act.put, List.setIfInBounds_toArray, List.set_cons_zero, List.set_cons_succ]
          refine wpAnyH_ready (rs := [11]) (by kernel_rfl) (by simp) ?_
          refine AllReadyH.cons (o := ⟨none, _, _, _, _, _⟩) rfl (fun K hK => ?_) AllReadyH.nil
          go_simp
          refine hK.out _ _ ?_ (fun hHeld2 => ?_)
          · exact ⟨cell_later hYB.out i0, cell_later hYB.out i1, cell_later hYB.out i2, cell_later hYB.out i3, cell_later hYB.out i4, cell_later hYB.out i5, cell_later hYB.out i6, cell_later hYB.out i7, cell_later hYB.out i8⟩
          clear hK K hHeld F4 n0 n1 n2 n3 n4 n5 n6 n7 n8 m0 m1 m2 m3 m4 m5 m6 m7 m8 g0 g1
          have hHeld := hHeld2
          clear hHeld2
          try simp only [Act.put, List.setIfInBounds_toArray, List.set_cons_zero, List.set_cons_succ]
          refine wpAnyH_take (i := 12) (oi := ⟨some 8, _, _, _, _, _⟩) (v := ?_) rfl (by kernel_rfl) (by kernel_rfl) (by kernel_rfl) (fun _ _ _ h => h) (Or.inl ⟨by rfl, ?_⟩) (by assumption) ?_
          rotate_left 1
          · intro w hSw; (try dsimp only at hSw); go_simp; try (with_reducible rfl)
          try simp only [Act.put, List.setIfInBounds_toArray, List.set_cons_zero, List.set_cons_succ]
          refine wpAnyH_done (by kernel_rfl) ?_ _
          try simp only [Act.put, List.setIfInBounds_toArray, List.set_cons_zero, List.set_cons_succ]
          go_wp2_with fail
          go_meet
          exact hY
        refine AllReadyH.cons (o := ⟨some 7, _, _, _, _, _⟩) rfl (fun K hK => ?_) AllReadyH.nil
        have F1 := Lib.hid F0.out.box
        have BA := (Below.refl V0.heap.size V0).alloc (Nat.le_refl _) (.cells #[.int .i64 0, .int .i64 0, .int .i64 0, .int .i64 0, .int .i64 0, .int .i64 0, .int .i64 0, .int .i64 0, .slice none 0 0] 30)
        go_simp
        generalize (V0.alloc (.cells #[.int .i64 0, .int .i64 0, .int .i64 0, .int .i64 0, .int .i64 0, .int .i64 0, .int .i64 0, .int .i64 0, .slice none 0 0] 30)) = V1 at F1 BA  ⊢
        refine hK.out _ _ ?_ (fun hHeld2 => ?_)
        · exact ⟨cell_later BA hHeld.1, cell_later BA hHeld.2.1, cell_later BA hHeld.2.2.1, cell_later BA hHeld.2.2.2.1, cell_later BA hHeld.2.2.2.2.1, cell_later BA hHeld.2.2.2.2.2.1, cell_later BA hHeld.2.2.2.2.2.2.1, cell_later BA hHeld.2.2.2.2.2.2.2.1, cell_later BA hHeld.2.2.2.2.2.2.2.2⟩
        clear hK K hHeld BA
        have hHeld := hHeld2
        clear hHeld2
        try simp only [Act.put, List.setIfInBounds_toArray, List.set_cons_zero, List.set_cons_succ]
        refine wpAnyH_ready (rs := [1]) (by kernel_rfl) (by simp) ?_
        refine AllReadyH.cons (o := ⟨some 32, _, _, _, _, _⟩) rfl (fun K hK => ?_) AllReadyH.nil
        go_simp
        (with_reducible refine (te _ (bstep E0.out F1.out.kp)).mono ?_)
        rintro e w2x ⟨u2, rfl, O2, hb⟩
        have O2 := Lib.hid O2
        have F2 := Lib.hid (F1.out.low hb)
        go_wp2_with fail
        refine hK.out _ _ ?_ (fun hHeld2 => ?_)
        · exact ⟨cell_later hb hHeld.1, cell_later hb hHeld.2.1, cell_later hb hHeld.2.2.1, cell_later hb hHeld.2.2.2.1, cell_later hb hHeld.2.2.2.2.1, cell_later hb hHeld.2.2.2.2.2.1, cell_later hb hHeld.2.2.2.2.2.2.1, cell_later hb hHeld.2.2.2.2.2.2.2.1, cell_later hb hHeld.2.2.2.2.2.2.2.2⟩
        clear hK K hHeld hb
        have hHeld := hHeld2
        clear hHeld2
        try simp only [Act.put, List.setIfInBounds_toArray, List.set_cons_zero, List.set_cons_succ]
        refine wpAnyH_ready (rs := [3]) (by kernel_rfl) (by simp) ?_
        refine AllReadyH.cons (o := ⟨some 34, _, _, _, _, _⟩) rfl (fun K hK => ?_) AllReadyH.nil
        go_simp
        (with_reducible refine (tx _ (bstep E0.out F2.out.kp)).mono ?_)
        rintro e w3x ⟨bp2, p2, _, rfl, P2, hb⟩
        obtain ⟨pn2, rfl⟩ : ∃ pc, p2 = .slice (some ⟨bp2, 0, none⟩) X.deps.length pc := by obtain ⟨c, e, _⟩ := P2.shape; exact ⟨_, e⟩
        have P2 := Lib.hid P2
        replace O2 := Lib.hid (O2.out.up hb)
        have F3 := Lib.hid (F2.out.low hb)
        go_wp2_with fail
        refine hK.out _ _ ?_ (fun hHeld2 => ?_)
        · exact ⟨cell_later hb hHeld.1, cell_later hb hHeld.2.1, cell_later hb hHeld.2.2.1, cell_later hb hHeld.2.2.2.1, cell_later hb hHeld.2.2.2.2.1, cell_later hb hHeld.2.2.2.2.2.1, cell_later hb hHeld.2.2.2.2.2.2.1, cell_later hb hHeld.2.2.2.2.2.2.2.1, cell_later hb hHeld.2.2.2.2.2.2.2.2⟩
        clear hK K hHeld hb
        have hHeld := hHeld2
        clear hHeld2
        try simp only [Act.put, List.setIfInBounds_toArray, List.set_cons_zero, List.set_cons_succ]
        refine wpAnyH_ready (rs := [4]) (by kernel_rfl) (by simp) ?_
        refine AllReadyH.cons (o := ⟨some 35, _, _, _, _, _⟩) rfl (fun K hK => ?_) AllReadyH.nil
        go_simp
        have hbx4 := fun b e => lt_of_heap (F3.out.bx b e).2
        (with_reducible refine (sp _ _ _ O2.out.read P2.out.read).mono ?_)
        rintro e w4x ⟨g4, c4, a4, m4, d4, rfl, R4, hb⟩
        unfold env
        have R4 := Lib.hid R4
        have F4 := Lib.hid (F3.out.low hb)
        clear O2 P2
        go_wp2_with fail
        refine hK.out _ _ ?_ (fun hHeld2 => ?_)
        · exact ⟨cell_later hb hHeld.1, cell_later hb hHeld.2.1, cell_later hb hHeld.2.2.1, cell_later hb hHeld.2.2.2.1, cell_later hb hHeld.2.2.2.2.1, cell_later hb hHeld.2.2.2.2.2.1, cell_later hb hHeld.2.2.2.2.2.2.1, cell_later hb hHeld.2.2.2.2.2.2.2.1, cell_later hb hHeld.2.2.2.2.2.2.2.2⟩
        clear hK K hHeld hb
        have hHeld := hHeld2
        clear hHeld2
        try simp only [Act.put, List.setIfInBounds_toArray, List.set_cons_zero, List.set_cons_succ]
        refine wpAnyH_take (i := 5) (oi := ⟨some 30, _, _, _, _, _⟩) (v := ?_) rfl (by kernel_rfl) (by kernel_rfl) (by kernel_rfl) (fun _ _ _ h => h) (Or.inl ⟨by rfl, ?_⟩) (by assumption) ?_
        rotate_left 1
        · intro w hSw; (try dsimp only at hSw); go_simp; try (with_reducible rfl)
        try simp only [Act.put, List.setIfInBounds_toArray, List.set_cons_zero, List.set_cons_succ]
        refine wpAnyH_take (i := 6) (oi := ⟨some 36, _, _, _, _, _⟩) (v := ?_) rfl (by kernel_rfl) (by kernel_rfl) (by kernel_rfl) (fun _ _ _ h => h) (Or.inl ⟨by rfl, ?_⟩) (by assumption) ?_
        rotate_left 1
        · intro w hSw; (try dsimp only at hSw); go_simp; try (with_reducible rfl)
        try simp only [Act.put, List.setIfInBounds_toArray, List.set_cons_zero, List.set_cons_succ]
        refine wpAnyH_take (i := 7) (oi := ⟨some 37, _, _, _, _, _⟩) (v := ?_) rfl (by kernel_rfl) (by kernel_rfl) (by kernel_rfl) (fun _ _ _ h => h) (Or.inl ⟨by rfl, ?_⟩) (by assumption) ?_
        rotate_left 1
        · intro w hSw; (try dsimp only at hSw); go_simp; try (with_reducible rfl)
        try simp only [Act.put, List.setIfInBounds_toArray, List.set_cons_zero, List.set_cons_succ]
        refine wpAnyH_take (i := 8) (oi := ⟨some 38, _, _, _, _, _⟩) (v := ?_) rfl (by kernel_rfl) (by kernel_rfl) (by kernel_rfl) (fun _ _ _ h => h) (Or.inl ⟨by rfl, ?_⟩) (by assumption) ?_
        rotate_left 1
        · intro w hSw; (try dsimp only at hSw); go_simp; try (with_reducible rfl)
        try simp only [Act.put, List.setIfInBounds_toArray, List.set_cons_zero, List.set_cons_succ]
        obtain ⟨g0, g1⟩ := F4.out.bx _ rfl
        obtain ⟨⟨n0, n1, n2, n3, n4, n5, n6, n7, n8⟩, ⟨m0, m1, m2, m3, m4, m5, m6, m7, m8⟩, hxl⟩ := nine_all g1
        have hY := F4.out.doneP (q := q) R4.out (by intro h; have := hbx4 _ rfl; have := h.1; omega)
        have hYB : Below w2.heap.size w2 _ := (by obtain ⟨_, _, _, _, _, _, _, _, _, _, _, _, _, h⟩ := hY; exact h)
        have hY := Lib.hid hY
        have hYB := Lib.hid hYB
        clear R4 hbx4
        refine wpAnyH_take (i := 10) (oi := ⟨some 6, _, _, _, _, _⟩) (v := ?_) rfl (by kernel_rfl) (by kernel_rfl) (by kernel_rfl) (fun _ _ _ h => h) (Or.inl ⟨by rfl, ?_⟩) (by assumption) ?_
        rotate_left 1
        · intro w hSw; (try dsimp only at hSw); go_simp; try (with_reducible rfl)
        try simp only [Act.put, List.setIfInBounds_toArray, List.set_cons_zero, List.set_cons_succ]
        refine wpAnyH_ready (rs := [11]) (by kernel_rfl) (by simp) ?_
        refine AllReadyH.cons (o := ⟨none, _, _, _, _, _⟩) rfl (fun K hK => ?_) AllReadyH.nil
        go_simp
        refine hK.out _ _ ?_ (fun hHeld2 => ?_)
        · exact ⟨cell_later hYB.out i0, cell_later hYB.out i1, cell_later hYB.out i2, cell_later hYB.out i3, cell_later hYB.out i4, cell_later hYB.out i5, cell_later hYB.out i6, cell_later hYB.out i7, cell_later hYB.out i8⟩
        clear hK K hHeld F4 n0 n1 n2 n3 n4 n5 n6 n7 n8 m0 m1 m2 m3 m4 m5 m6 m7 m8 g0 g1
        have hHeld := hHeld2
        clear hHeld2
        try simp only [Act.put, List.setIfInBounds_toArray, List.set_cons_zero, List.set_cons_succ]
        refine wpAnyH_take (i := 12) (oi := ⟨some 8, _, _, _, _, _⟩) (v := ?_) rfl (by kernel_rfl) (by kernel_rfl) (by kernel_rfl) (fun _ _ _ h => h) (Or.inl ⟨by rfl, ?_⟩) (by assumption) ?_
        rotate_left 1
        · intro w hSw; (try dsimp only at hSw); go_simp; try (with_reducible rfl)
        try simp only [Act.put, List.setIfInBounds_toArray, List.set_cons_zero, List.set_cons_succ]
        refine wpAnyH_done (by kernel_rfl) ?_ _
        try simp only [Act.put, List.setIfInBounds_toArray, List.set_cons_zero, List.set_cons_succ]
        go_wp2_with fail
        go_meet
        exact hY
      case rest =>
        obtain ⟨xb5, g5, c5, a5, m5, d5, rfl, rfl, rfl, X5, N5, I5, hx5, E5⟩ := hcut.out
        have X5 := Lib.hid X5
        have N5 := Lib.hid N5
        have I5 := Lib.hid I5
        have E5 := Lib.hid E5
        have hI5 := Lib.hid (bblk E5.out hil A1.out)
        have hl5 := lt_of_heap X5.out
        clear hcut i0 i1 i2 i3 i4 i5 i6 i7 i8 sp E0 hx5 A1
        go_wp2_with fail
        refine (te _ E5.out).mono ?_
        rintro e w8 ⟨v8, rfl, O8, B⟩
        obtain ⟨gx, cx, Lx, rfl, hm1, hm2, hm3⟩ := O8.mk
        have O8 := Lib.hid O8
        have hm3 := Lib.hid hm3
        have K := Lib.hid B
        have hs8 := B.size
        clear B
        obtain ⟨⟨i0, i1, i2, i3, i4, i5, i6, i7, i8⟩, _, _⟩ := nine_all (bblk K.out (lt_of_heap hI5.out) hI5.out)
        go_wp2_with fail
        refine (tx _ (bstep E5.out K.out)).mono ?_
        rintro e w9 ⟨b7, p7, hb7, rfl, P7, B⟩
        obtain ⟨pc7, hp7⟩ : ∃ pc, p7 = .slice (some ⟨b7, 0, none⟩) X.deps.length pc := by obtain ⟨c, e, _⟩ := P7.shape; exact ⟨_, e⟩
        subst hp7
        have hDl := P7.cap_le
        have hs9 := B.size
        have hb9 := P7.lt
        have BA := (Below.refl w9.heap.size w9).alloc (Nat.le_refl _) (.cells #[.int .i64 X.id.1, .int .i64 X.id.2, .int .i64 X.bal, .int .i64 X.st, .int .i64 X.k, .int .i64 X.key, .int .i64 X.v, .int .i64 X.seq, .slice (some ⟨b7, 0, none⟩) X.deps.length pc7] 30)
        have X7 := Lib.hid (show BxE (w9.alloc (.cells #[.int .i64 X.id.1, .int .i64 X.id.2, .int .i64 X.bal, .int .i64 X.st, .int .i64 X.k, .int .i64 X.key, .int .i64 X.v, .int .i64 X.seq, .slice (some ⟨b7, 0, none⟩) X.deps.length pc7] 30)) w9.heap.size X (.slice (some ⟨b7, 0, none⟩) X.deps.length pc7) from heap_alloc_new _ _)
        have P7 := Lib.hid (P7.up BA P7.lt)
        have B2 := bstep B BA
        have hsA := BA.size
        replace K := Lib.hid (bstep K.out B2)
        replace O8 := Lib.hid (O8.out.up B2)
        replace hm3 := Lib.hid (hm3.out.up B2)
        clear i0 i1 i2 i3 i4 i5 i6 i7 i8
        clear B BA B2
        go_upto_region 11 with fail
        have hszA : (w9.alloc (.cells #[.int .i64 X.id.1, .int .i64 X.id.2, .int .i64 X.bal, .int .i64 X.st, .int .i64 X.k, .int .i64 X.key, .int .i64 X.v, .int .i64 X.seq, .slice (some ⟨b7, 0, none⟩) X.deps.length pc7] 30)).heap.size = w9.heap.size + 1 := by simp
        generalize w9.alloc (.cells #[.int .i64 X.id.1, .int .i64 X.id.2, .int .i64 X.bal, .int .i64 X.st, .int .i64 X.k, .int .i64 X.key, .int .i64 X.v, .int .i64 X.seq, .slice (some ⟨b7, 0, none⟩) X.deps.length pc7] 30) = w9a at X7 P7 K O8 hm3 hszA hsA ⊢
        obtain ⟨xb7, hxb7⟩ : ∃ n, Hid (w9.heap.size = n) := ⟨_, Lib.hid rfl⟩
        rw [hxb7.out] at X7 hs9 hb9 hszA hsA ⊢
        clear hxb7
        obtain ⟨⟨r0, r1, r2, r3, r4, r5, r6, r7, r8⟩, rl⟩ := X7.out.cells
        go_wp2_with fail
        refine (ip _ _ _ (TabIn.up hT.out (bstep E5.out K.out) (Nat.le_refl _)) O8.out.read P7.out.read).mono ?_
        rintro e w10 ⟨v10, u10, S10, rfl, s1, s2, Z, L, B⟩
        obtain ⟨g10, c10, hv10, _⟩ := L.shape
        subst hv10
        obtain ⟨va9, vn9, vc9, rfl⟩ : ∃ ua un uc, u10 = .slice ua un uc := by obtain ⟨a, c, e, _⟩ := Z.read; exact ⟨a, _, c, e⟩
        have BA := (Below.refl w10.heap.size w10).alloc (Nat.le_refl _) (.cells #[.int .i64 Y.id.1, .int .i64 Y.id.2, .int .i64 Y.bal, .int .i64 Y.st, .int .i64 Y.k, .int .i64 Y.key, .int .i64 Y.v, .int .i64 Y.seq, .slice va9 vn9 vc9] 30)
        have X9 := Lib.hid (show BxE (w10.alloc (.cells #[.int .i64 Y.id.1, .int .i64 Y.id.2, .int .i64 Y.bal, .int .i64 Y.st, .int .i64 Y.k, .int .i64 Y.key, .int .i64 Y.v, .int .i64 Y.seq, .slice va9 vn9 vc9] 30)) w10.heap.size Y (.slice va9 vn9 vc9) from heap_alloc_new _ _)
        have Z := Lib.hid (Z.up BA)
        have L := Lib.hid (L.up BA)
        have B2 := bstep B BA
        replace K := Lib.hid (bstep K.out B2)
        replace O8 := Lib.hid (O8.out.up B2)
        replace hm3 := Lib.hid (hm3.out.up B2)
        replace X7 := Lib.hid (X7.out.up B2)
        replace P7 := Lib.hid (P7.out.up B2 P7.out.lt)
        clear B BA B2 r0 r1 r2 r3 r4 r5 r6 r7 r8 rl
        go_upto_region 12 with fail
        obtain ⟨S5, hS5⟩ : ∃ n, Hid (wc.heap.size = n) := ⟨_, Lib.hid rfl⟩
        obtain ⟨S6, hS6⟩ : ∃ n, Hid (w8.heap.size = n) := ⟨_, Lib.hid rfl⟩
        obtain ⟨B9, hB9⟩ : ∃ n, Hid (w9a.heap.size = n) := ⟨_, Lib.hid rfl⟩
        obtain ⟨T9, hT9⟩ : ∃ n, Hid (w10.heap.size = n) := ⟨_, Lib.hid rfl⟩
        rw [hT9.out] at X9 L s2 ⊢
        rw [hB9.out] at Z s1 hszA hsA
        rw [hS6.out] at hm3 hs8 hs9 hb7
        rw [hS5.out] at hm3 O8 hs8 hl5
        generalize w10.alloc (.cells #[.int .i64 Y.id.1, .int .i64 Y.id.2, .int .i64 Y.bal, .int .i64 Y.st, .int .i64 Y.k, .int .i64 Y.key, .int .i64 Y.v, .int .i64 Y.seq, .slice va9 vn9 vc9] 30) = w11 at X9 Z L K O8 hm3 X7 P7 ⊢
        clear hS6 hB9 hT9 ip
        have hKS : S5 ≤ wc.heap.size := by rw [hS5.out]; exact Nat.le_refl _
        have hKS2 : wc.heap.size ≤ S5 := by rw [hS5.out]; exact Nat.le_refl _
        go_wp2_with fail
        refine (eqEs_any _ _ N _ L.out.read (N5.out.up K.out (Nat.le_refl _))).mono ?_
        rintro e w12 ⟨rfl, B⟩
        replace K := Lib.hid (bstep K.out B)
        replace O8 := Lib.hid (O8.out.up B)
        replace hm3 := Lib.hid (hm3.out.up B)
        replace Z := Lib.hid (Z.out.up B)
        replace L := Lib.hid (L.out.up B)
        replace X9 := Lib.hid (X9.out.up B)
        replace X7 := Lib.hid (X7.out.up B)
        replace P7 := Lib.hid (P7.out.up B P7.out.lt)
        clear B
        have X5c := X5.out.up K.out
        obtain ⟨⟨p0, p1, p2, p3, p4, p5, p6, p7, p8⟩, pl⟩ := X5c.cells
        obtain ⟨⟨r0, r1, r2, r3, r4, r5, r6, r7, r8⟩, rl⟩ := X9.out.cells
        go_wp2_with fail
        refine (eqE_any Y _ _ _ Z.out.read (I5.out.up K.out (Nat.le_refl _))).mono ?_
        rintro e w13 ⟨rfl, B⟩
        clear p0 p1 p2 p3 p4 p5 p6 p7 p8 pl r0 r1 r2 r3 r4 r5 r6 r7 r8 rl X5c
        replace K := Lib.hid (bstep K.out B)
        replace O8 := Lib.hid (O8.out.up B)
        replace hm3 := Lib.hid (hm3.out.up B)
        replace Z := Lib.hid (Z.out.up B)
        replace L := Lib.hid (L.out.up B)
        replace X9 := Lib.hid (X9.out.up B)
        replace X7 := Lib.hid (X7.out.up B)
        replace P7 := Lib.hid (P7.out.up B P7.out.lt)
        clear B
        go_wp2_with fail
        refine (te _ (bstep E5.out K.out)).mono ?_
        rintro e w14 ⟨v14, rfl, O14, B⟩
        have O14 := Lib.hid O14
        replace K := Lib.hid (bstep K.out B)
        replace O8 := Lib.hid (O8.out.up B)
        replace hm3 := Lib.hid (hm3.out.up B)
        replace Z := Lib.hid (Z.out.up B)
        replace L := Lib.hid (L.out.up B)
        replace X9 := Lib.hid (X9.out.up B)
        replace X7 := Lib.hid (X7.out.up B)
        replace P7 := Lib.hid (P7.out.up B P7.out.lt)
        clear B
        go_wp2_with fail
        refine (eqEs_any _ _ E _ O8.out.read O14.out.read).mono ?_
        rintro e w15 ⟨rfl, B⟩
        replace K := Lib.hid (bstep K.out B)
        replace hm3 := Lib.hid (hm3.out.up B)
        replace Z := Lib.hid (Z.out.up B)
        replace L := Lib.hid (L.out.up B)
        replace X9 := Lib.hid (X9.out.up B)
        replace X7 := Lib.hid (X7.out.up B)
        replace P7 := Lib.hid (P7.out.up B P7.out.lt)
        clear B O8 O14
        go_upto_region 16 with fail
        have keep16 : ∀ wc w', Below wc.heap.size wc w' → (((wc.cell? ⟨ib, 0, none⟩ = some (.int .i64 X.id.1) ∧ wc.cell? ⟨ib, 1, none⟩ = some (.int .i64 X.id.2) ∧ wc.cell? ⟨ib, 2, none⟩ = some (.int .i64 X.bal) ∧ wc.cell? ⟨ib, 3, none⟩ = some (.int .i64 X.st) ∧ wc.cell? ⟨ib, 4, none⟩ = some (.int .i64 X.k) ∧ wc.cell? ⟨ib, 5, none⟩ = some (.int .i64 X.key) ∧ wc.cell? ⟨ib, 6, none⟩ = some (.int .i64 X.v) ∧ wc.cell? ⟨ib, 7, none⟩ = some (.int .i64 X.seq) ∧ wc.cell? ⟨ib, 8, none⟩ = some (.slice ua un uc)) ∧ (wc.cell? ⟨xb7, 0, none⟩ = some (.int .i64 X.id.1) ∧ wc.cell? ⟨xb7, 1, none⟩ = some (.int .i64 X.id.2) ∧ wc.cell? ⟨xb7, 2, none⟩ = some (.int .i64 X.bal) ∧ wc.cell? ⟨xb7, 3, none⟩ = some (.int .i64 X.st) ∧ wc.cell? ⟨xb7, 4, none⟩ = some (.int .i64 X.k) ∧ wc.cell? ⟨xb7, 5, none⟩ = some (.int .i64 X.key) ∧ wc.cell? ⟨xb7, 6, none⟩ = some (.int .i64 X.v) ∧ wc.cell? ⟨xb7, 7, none⟩ = some (.int .i64 X.seq) ∧ wc.cell? ⟨xb7, 8, none⟩ = some (.slice (some ⟨b7, 0, none⟩) X.deps.length pc7))) ∧ Below w15.heap.size w15 wc) → (((w'.cell? ⟨ib, 0, none⟩ = some (.int .i64 X.id.1) ∧ w'.cell? ⟨ib, 1, none⟩ = some (.int .i64 X.id.2) ∧ w'.cell? ⟨ib, 2, none⟩ = some (.int .i64 X.bal) ∧ w'.cell? ⟨ib, 3, none⟩ = some (.int .i64 X.st) ∧ w'.cell? ⟨ib, 4, none⟩ = some (.int .i64 X.k) ∧ w'.cell? ⟨ib, 5, none⟩ = some (.int .i64 X.key) ∧ w'.cell? ⟨ib, 6, none⟩ = some (.int .i64 X.v) ∧ w'.cell? ⟨ib, 7, none⟩ = some (.int .i64 X.seq) ∧ w'.cell? ⟨ib, 8, none⟩ = some (.slice ua un uc)) ∧ (w'.cell? ⟨xb7, 0, none⟩ = some (.int .i64 X.id.1) ∧ w'.cell? ⟨xb7, 1, none⟩ = some (.int .i64 X.id.2) ∧ w'.cell? ⟨xb7, 2, none⟩ = some (.int .i64 X.bal) ∧ w'.cell? ⟨xb7, 3, none⟩ = some (.int .i64 X.st) ∧ w'.cell? ⟨xb7, 4, none⟩ = some (.int .i64 X.k) ∧ w'.cell? ⟨xb7, 5, none⟩ = some (.int .i64 X.key) ∧ w'.cell? ⟨xb7, 6, none⟩ = some (.int .i64 X.v) ∧ w'.cell? ⟨xb7, 7, none⟩ = some (.int .i64 X.seq) ∧ w'.cell? ⟨xb7, 8, none⟩ = some (.slice (some ⟨b7, 0, none⟩) X.deps.length pc7))) ∧ Below w15.heap.size w15 w') := fun wc w' hb h => ⟨⟨⟨cell_later hb h.1.1.1, cell_later hb h.1.1.2.1, cell_later hb h.1.1.2.2.1, cell_later hb h.1.1.2.2.2.1, cell_later hb h.1.1.2.2.2.2.1, cell_later hb h.1.1.2.2.2.2.2.1, cell_later hb h.1.1.2.2.2.2.2.2.1, cell_later hb h.1.1.2.2.2.2.2.2.2.1, cell_later hb h.1.1.2.2.2.2.2.2.2.2⟩, ⟨cell_later hb h.1.2.1, cell_later hb h.1.2.2.1, cell_later hb h.1.2.2.2.1, cell_later hb h.1.2.2.2.2.1, cell_later hb h.1.2.2.2.2.2.1, cell_later hb h.1.2.2.2.2.2.2.1, cell_later hb h.1.2.2.2.2.2.2.2.1, cell_later hb h.1.2.2.2.2.2.2.2.2.1, cell_later hb h.1.2.2.2.2.2.2.2.2.2⟩⟩, h.2.trans (hb.mono h.2.size)⟩
        have drew16 : ∀ wc, (((wc.cell? ⟨ib, 0, none⟩ = some (.int .i64 X.id.1) ∧ wc.cell? ⟨ib, 1, none⟩ = some (.int .i64 X.id.2) ∧ wc.cell? ⟨ib, 2, none⟩ = some (.int .i64 X.bal) ∧ wc.cell? ⟨ib, 3, none⟩ = some (.int .i64 X.st) ∧ wc.cell? ⟨ib, 4, none⟩ = some (.int .i64 X.k) ∧ wc.cell? ⟨ib, 5, none⟩ = some (.int .i64 X.key) ∧ wc.cell? ⟨ib, 6, none⟩ = some (.int .i64 X.v) ∧ wc.cell? ⟨ib, 7, none⟩ = some (.int .i64 X.seq) ∧ wc.cell? ⟨ib, 8, none⟩ = some (.slice ua un uc)) ∧ (wc.cell? ⟨xb7, 0, none⟩ = some (.int .i64 X.id.1) ∧ wc.cell? ⟨xb7, 1, none⟩ = some (.int .i64 X.id.2) ∧ wc.cell? ⟨xb7, 2, none⟩ = some (.int .i64 X.bal) ∧ wc.cell? ⟨xb7, 3, none⟩ = some (.int .i64 X.st) ∧ wc.cell? ⟨xb7, 4, none⟩ = some (.int .i64 X.k) ∧ wc.cell? ⟨xb7, 5, none⟩ = some (.int .i64 X.key) ∧ wc.cell? ⟨xb7, 6, none⟩ = some (.int .i64 X.v) ∧ wc.cell? ⟨xb7, 7, none⟩ = some (.int .i64 X.seq) ∧ wc.cell? ⟨xb7, 8, none⟩ = some (.slice (some ⟨b7, 0, none⟩) X.deps.length pc7))) ∧ Below w15.heap.size w15 wc) → (((wc.drew.cell? ⟨ib, 0, none⟩ = some (.int .i64 X.id.1) ∧ wc.drew.cell? ⟨ib, 1, none⟩ = some (.int .i64 X.id.2) ∧ wc.drew.cell? ⟨ib, 2, none⟩ = some (.int .i64 X.bal) ∧ wc.drew.cell? ⟨ib, 3, none⟩ = some (.int .i64 X.st) ∧ wc.drew.cell? ⟨ib, 4, none⟩ = some (.int .i64 X.k) ∧ wc.drew.cell? ⟨ib, 5, none⟩ = some (.int .i64 X.key) ∧ wc.drew.cell? ⟨ib, 6, none⟩ = some (.int .i64 X.v) ∧ wc.drew.cell? ⟨ib, 7, none⟩ = some (.int .i64 X.seq) ∧ wc.drew.cell? ⟨ib, 8, none⟩ = some (.slice ua un uc)) ∧ (wc.drew.cell? ⟨xb7, 0, none⟩ = some (.int .i64 X.id.1) ∧ wc.drew.cell? ⟨xb7, 1, none⟩ = some (.int .i64 X.id.2) ∧ wc.drew.cell? ⟨xb7, 2, none⟩ = some (.int .i64 X.bal) ∧ wc.drew.cell? ⟨xb7, 3, none⟩ = some (.int .i64 X.st) ∧ wc.drew.cell? ⟨xb7, 4, none⟩ = some (.int .i64 X.k) ∧ wc.drew.cell? ⟨xb7, 5, none⟩ = some (.int .i64 X.key) ∧ wc.drew.cell? ⟨xb7, 6, none⟩ = some (.int .i64 X.v) ∧ wc.drew.cell? ⟨xb7, 7, none⟩ = some (.int .i64 X.seq) ∧ wc.drew.cell? ⟨xb7, 8, none⟩ = some (.slice (some ⟨b7, 0, none⟩) X.deps.length pc7))) ∧ Below w15.heap.size w15 wc.drew) := fun wc h => ⟨h.1, h.2.drew⟩
        obtain ⟨⟨r0, r1, r2, r3, r4, r5, r6, r7, r8⟩, rl⟩ := X7.out.cells
        obtain ⟨⟨i0, i1, i2, i3, i4, i5, i6, i7, i8⟩, _, _⟩ := nine_all (bblk K.out (lt_of_heap hI5.out) hI5.out)
        have H16 := Lib.hid (show ((w15.cell? ⟨ib, 0, none⟩ = some (.int .i64 X.id.1) ∧ w15.cell? ⟨ib, 1, none⟩ = some (.int .i64 X.id.2) ∧ w15.cell? ⟨ib, 2, none⟩ = some (.int .i64 X.bal) ∧ w15.cell? ⟨ib, 3, none⟩ = some (.int .i64 X.st) ∧ w15.cell? ⟨ib, 4, none⟩ = some (.int .i64 X.k) ∧ w15.cell? ⟨ib, 5, none⟩ = some (.int .i64 X.key) ∧ w15.cell? ⟨ib, 6, none⟩ = some (.int .i64 X.v) ∧ w15.cell? ⟨ib, 7, none⟩ = some (.int .i64 X.seq) ∧ w15.cell? ⟨ib, 8, none⟩ = some (.slice ua un uc)) ∧ (w15.cell? ⟨xb7, 0, none⟩ = some (.int .i64 X.id.1) ∧ w15.cell? ⟨xb7, 1, none⟩ = some (.int .i64 X.id.2) ∧ w15.cell? ⟨xb7, 2, none⟩ = some (.int .i64 X.bal) ∧ w15.cell? ⟨xb7, 3, none⟩ = some (.int .i64 X.st) ∧ w15.cell? ⟨xb7, 4, none⟩ = some (.int .i64 X.k) ∧ w15.cell? ⟨xb7, 5, none⟩ = some (.int .i64 X.key) ∧ w15.cell? ⟨xb7, 6, none⟩ = some (.int .i64 X.v) ∧ w15.cell? ⟨xb7, 7, none⟩ = some (.int .i64 X.seq) ∧ w15.cell? ⟨xb7, 8, none⟩ = some (.slice (some ⟨b7, 0, none⟩) X.deps.length pc7))) ∧ Below w15.heap.size w15 w15 from ⟨⟨⟨i0, i1, i2, i3, i4, i5, i6, i7, i8⟩, r0, r1, r2, r3, r4, r5, r6, r7, r8⟩, Below.refl _ _⟩)
        have tx16 := fun W (hb : Below w15.heap.size w15 W) => tx W (bstep (bstep E5.out K.out) hb)
        have eq16 := fun x W (hb : Below w15.heap.size w15 W) (H : Ids W x X.deps) => eqE_any X (.slice (some ⟨b7, 0, none⟩) X.deps.length pc7) x W (P7.out.up hb P7.out.lt).read H
        unfold env at eq16
        have keep16 := Lib.hid keep16
        have drew16 := Lib.hid drew16
        clear r0 r1 r2 r3 r4 r5 r6 r7 r8 rl i0 i1 i2 i3 i4 i5 i6 i7 i8
        go_region_held3 (fun w' => ((w'.cell? ⟨ib, 0, none⟩ = some (.int .i64 X.id.1) ∧ w'.cell? ⟨ib, 1, none⟩ = some (.int .i64 X.id.2) ∧ w'.cell? ⟨ib, 2, none⟩ = some (.int .i64 X.bal) ∧ w'.cell? ⟨ib, 3, none⟩ = some (.int .i64 X.st) ∧ w'.cell? ⟨ib, 4, none⟩ = some (.int .i64 X.k) ∧ w'.cell? ⟨ib, 5, none⟩ = some (.int .i64 X.key) ∧ w'.cell? ⟨ib, 6, none⟩ = some (.int .i64 X.v) ∧ w'.cell? ⟨ib, 7, none⟩ = some (.int .i64 X.seq) ∧ w'.cell? ⟨ib, 8, none⟩ = some (.slice ua un uc)) ∧ (w'.cell? ⟨xb7, 0, none⟩ = some (.int .i64 X.id.1) ∧ w'.cell? ⟨xb7, 1, none⟩ = some (.int .i64 X.id.2) ∧ w'.cell? ⟨xb7, 2, none⟩ = some (.int .i64 X.bal) ∧ w'.cell? ⟨xb7, 3, none⟩ = some (.int .i64 X.st) ∧ w'.cell? ⟨xb7, 4, none⟩ = some (.int .i64 X.k) ∧ w'.cell? ⟨xb7, 5, none⟩ = some (.int .i64 X.key) ∧ w'.cell? ⟨xb7, 6, none⟩ = some (.int .i64 X.v) ∧ w'.cell? ⟨xb7, 7, none⟩ = some (.int .i64 X.seq) ∧ w'.cell? ⟨xb7, 8, none⟩ = some (.slice (some ⟨b7, 0, none⟩) X.deps.length pc7))) ∧ Below w15.heap.size w15 w') (first | exact drew16.out _ H16.out | exact keep16.out _ _ (by assumption) (by assumption))
          (first | (go_at_call 31; (with_reducible refine (tx16 _ (by assumption : ((_ ∧ _ ∧ _ ∧ _ ∧ _ ∧ _ ∧ _ ∧ _ ∧ _) ∧ (_ ∧ _ ∧ _ ∧ _ ∧ _ ∧ _ ∧ _ ∧ _ ∧ _)) ∧ Below w15.heap.size w15 _).2).mono ?_); rintro e w' ⟨bp2, p2, _, rfl, P2, hb⟩; obtain ⟨pn2, rfl⟩ : ∃ pc, p2 = .slice (some ⟨bp2, 0, none⟩) X.deps.length pc := (by obtain ⟨c, e, _⟩ := P2.shape; exact ⟨_, e⟩); have P2 := Lib.hid P2) | (go_at_call 25; (with_reducible refine (eq16 _ _ (by assumption : ((_ ∧ _ ∧ _ ∧ _ ∧ _ ∧ _ ∧ _ ∧ _ ∧ _) ∧ (_ ∧ _ ∧ _ ∧ _ ∧ _ ∧ _ ∧ _ ∧ _ ∧ _)) ∧ Below w15.heap.size w15 _).2 (by first | exact P2.out.read | exact (P2.out.same ((Below.refl _ _ : Below _ _ _).block _ P2.out.lt)).read)).mono ?_); rintro e w' ⟨rfl, hb⟩; clear P2))
        rename_i H17
        have B := (show ((_ ∧ _ ∧ _ ∧ _ ∧ _ ∧ _ ∧ _ ∧ _ ∧ _) ∧ (_ ∧ _ ∧ _ ∧ _ ∧ _ ∧ _ ∧ _ ∧ _ ∧ _)) ∧ Below w15.heap.size w15 _ from H17).2
        replace K := Lib.hid (bstep K.out B)
        replace hm3 := Lib.hid (hm3.out.up B)
        replace Z := Lib.hid (Z.out.up B)
        replace L := Lib.hid (L.out.up B)
        replace X9 := Lib.hid (X9.out.up B)
        replace X7 := Lib.hid (X7.out.up B)
        replace P7 := Lib.hid (P7.out.up B P7.out.lt)
        clear B H16 tx16 eq16 keep16 drew16 H17
        have mk := markEs_le _ _ gx E.length cx Lx _ hm1 hm3.out
        go_wp2_with fail
        refine mk.mono ?_
        rintro e w16 ⟨zk, rfl, hzk, hzk1, XX⟩
        replace K := Lib.hid (K.out.trans (XX.to K.out.size (fun c h => by omega)))
        replace Z := Lib.hid (Z.out.apart XX (fun c h1 h2 h => by omega))
        replace L := Lib.hid (L.out.apart XX (fun c h1 h2 h => by omega))
        replace X9 := Lib.hid (X9.out.apart XX (by omega))
        replace X7 := Lib.hid (X7.out.apart XX (by omega))
        replace P7 := Lib.hid (P7.out.same (XX.block _ P7.out.lt (by omega)))
        clear XX mk hm3
        obtain ⟨⟨r0, r1, r2, r3, r4, r5, r6, r7, r8⟩, rl⟩ := X7.out.cells
        have me := markEb_any X b7 X.deps.length pc7 zk _ P7.out.sz hDl hzk (by omega)
        unfold env at me
        go_wp2_with fail
        refine me.mono ?_
        rintro e w16b ⟨rfl, XX⟩
        replace K := Lib.hid (K.out.trans (XX.to K.out.size (fun c h => by omega)))
        replace Z := Lib.hid (Z.out.apart XX (fun c h1 h2 h => by omega))
        replace L := Lib.hid (L.out.apart XX (fun c h1 h2 h => by omega))
        replace X9 := Lib.hid (X9.out.apart XX (by omega))
        clear XX me P7 X7 r0 r1 r2 r3 r4 r5 r6 r7 r8 rl
        obtain ⟨nd, hnd⟩ : ∃ n, Hid (X.deps.length = n) := ⟨_, Lib.hid rfl⟩
        rw [hnd.out] at hDl ⊢
        have hzk2 : ¬ zk + 2 * (nd : Int) < 0 := by omega
        go_wp2_with fail
        refine (eqEs_any _ _ N _ L.out.read (N5.out.up K.out (Nat.le_refl _))).mono ?_
        rintro e w17 ⟨rfl, B⟩
        replace K := Lib.hid (bstep K.out B)
        replace Z := Lib.hid (Z.out.up B)
        replace L := Lib.hid (L.out.up B)
        replace X9 := Lib.hid (X9.out.up B)
        clear B
        have X5c := X5.out.up K.out
        obtain ⟨⟨p0, p1, p2, p3, p4, p5, p6, p7, p8⟩, pl⟩ := X5c.cells
        obtain ⟨⟨r0, r1, r2, r3, r4, r5, r6, r7, r8⟩, rl⟩ := X9.out.cells
        go_wp2_with fail
        refine (eqE_any Y _ _ _ Z.out.read (I5.out.up K.out (Nat.le_refl _))).mono ?_
        rintro e w18 ⟨rfl, B⟩
        clear p0 p1 p2 p3 p4 p5 p6 p7 p8 pl r0 r1 r2 r3 r4 r5 r6 r7 r8 rl X5c
        replace K := Lib.hid (bstep K.out B)
        replace Z := Lib.hid (Z.out.up B)
        replace L := Lib.hid (L.out.up B)
        replace X9 := Lib.hid (X9.out.up B)
        clear B
        have ml := markL_any _ _ _ N 1 _ L.out hN12 hNd.out (by omega) (by omega)
        have hkr := ks_range (fun i => N.getD i en0) 1 N.length (fun i hi => hNd.out i hi)
        have hk0 : 1 ≤ kN N 1 ∧ kN N 1 ≤ 1000 := ⟨hkr.1, by have := hkr.2; unfold kN; omega⟩
        go_wp2_with fail
        refine ml.mono ?_
        rintro e w19 ⟨rfl, M9, XX⟩
        have M9 := Lib.hid M9
        replace K := Lib.hid (K.out.trans (XX.to K.out.size (fun c h => by omega)))
        replace Z := Lib.hid (Z.out.apart XX (fun c h1 h2 h => by omega))
        replace X9 := Lib.hid (X9.out.apart XX (by omega))
        clear XX ml L hkr
        obtain ⟨kk, hkk⟩ : ∃ n, Hid (kN N 1 = n) := ⟨_, Lib.hid rfl⟩
        rw [hkk.out] at hk0 ⊢
        obtain ⟨⟨r0, r1, r2, r3, r4, r5, r6, r7, r8⟩, rl⟩ := X9.out.cells
        have me := markE_z B9 S10 Y (.slice va9 vn9 vc9) Y.deps kk _ Z.out (by omega) (by omega)
        unfold env at me
        go_wp2_with fail
        refine me.mono ?_
        rintro e w20 ⟨rfl, M, hM, hMk, hO, XX⟩
        clear r0 r1 r2 r3 r4 r5 r6 r7 r8 rl
        replace K := Lib.hid (K.out.trans (XX.to K.out.size (fun c h => by omega)))
        replace X9 := Lib.hid (X9.out.apart XX (by omega))
        replace M9 := Lib.hid (M9.out.apart XX (fun c h1 h2 h => by omega))
        have O9 := Lib.hid hO
        have hM := Lib.hid hM
        have hMk := Lib.hid hMk
        clear XX me hO Z
        have hDl2 : Y.deps.length ≤ 2000000 := by rw [← hM.out]; obtain ⟨_, _, _, _, h, _⟩ := O9.out.read; exact h
        obtain ⟨ns, hns⟩ : ∃ n, Hid (Y.deps.length = n) := ⟨_, Lib.hid rfl⟩
        rw [hns.out] at hDl2 hM ⊢
        have hl20 := heldL_any _ _ _ N 1 _ M9.out hN12 hNd.out (by omega) (by omega)
        rw [hkk.out] at hl20
        go_wp2_with fail
        refine hl20.mono ?_
        rintro e w21 ⟨rfl, B⟩
        replace K := Lib.hid (bstep K.out B)
        replace X9 := Lib.hid (X9.out.up B)
        replace M9 := Lib.hid (M9.out.up B)
        replace O9 := Lib.hid (O9.out.up B)
        clear B hl20
        have hkn : ¬ kk < 0 := by omega
        have hkn2 : ¬ kk + 2 * (ns : Int) < 0 := by omega
        obtain ⟨⟨r0, r1, r2, r3, r4, r5, r6, r7, r8⟩, rl⟩ := X9.out.cells
        have he := heldE_z Y (.slice va9 vn9 vc9) kk M _ hMk.out O9.out.read (by omega) (by omega)
        rw [hM.out] at he
        unfold env at he
        go_wp2_with fail
        refine he.mono ?_
        rintro e wn ⟨rfl, B⟩
        clear r0 r1 r2 r3 r4 r5 r6 r7 r8 rl
        replace K := Lib.hid (bstep K.out B)
        replace X9 := Lib.hid (X9.out.up B)
        replace M9 := Lib.hid (M9.out.up B)
        replace O9 := Lib.hid (O9.out.up B)
        clear B he
        have EE := Lib.hid (bstep E5.out K.out)
        obtain ⟨⟨i0, i1, i2, i3, i4, i5, i6, i7, i8⟩, _, _⟩ := nine_all (bblk K.out (lt_of_heap hI5.out) hI5.out)
        go_upto_region 35 with fail
        go_cut [17, 18, 19] from 119 to 127 (fun s17 s18 s19 wx => Hid (PrQ N Y q wn s17 s18 s19 wx))
        case first =>
          have F0 := Lib.hid (FE.start (w0 := wn))
          refine wp_region_held_drew (S := fun w' => w'.cell? ⟨ib, 0, none⟩ = some (.int .i64 X.id.1) ∧ w'.cell? ⟨ib, 1, none⟩ = some (.int .i64 X.id.2) ∧ w'.cell? ⟨ib, 2, none⟩ = some (.int .i64 X.bal) ∧ w'.cell? ⟨ib, 3, none⟩ = some (.int .i64 X.st) ∧ w'.cell? ⟨ib, 4, none⟩ = some (.int .i64 X.k) ∧ w'.cell? ⟨ib, 5, none⟩ = some (.int .i64 X.key) ∧ w'.cell? ⟨ib, 6, none⟩ = some (.int .i64 X.v) ∧ w'.cell? ⟨ib, 7, none⟩ = some (.int .i64 X.seq) ∧ w'.cell? ⟨ib, 8, none⟩ = some (.slice ua un uc)) (by kernel_rfl) ⟨i0, i1, i2, i3, i4, i5, i6, i7, i8⟩ (fun hHeld => ?_)
          generalize wn.drew = V0 at F0 hHeld ⊢
          refine wpAnyH_take (i := 0) (oi := ⟨some 120, _, _, _, _, _⟩) (v := ?_) rfl (by kernel_rfl) (by kernel_rfl) (by kernel_rfl) (fun _ _ _ h => h) (Or.inl ⟨by rfl, ?_⟩) (by assumption) ?_
          rotate_left 1
          · intro w hSw; (try dsimp only at hSw); go_simp; try (with_reducible rfl)
          try simp only [Act.put, List.setIfInBounds_toArray, List.set_cons_zero, List.set_cons_succ]
          refine wpAnyH_take (i := 2) (oi := ⟨some 122, _, _, _, _, _⟩) (v := ?_) rfl (by kernel_rfl) (by kernel_rfl) (by kernel_rfl) (fun _ _ _ h => h) (Or.inl ⟨by rfl, ?_⟩) (by assumption) ?_
          rotate_left 1
          · intro w hSw; (try dsimp only at hSw); go_simp; try (with_reducible rfl)
          try simp only [Act.put, List.setIfInBounds_toArray, List.set_cons_zero, List.set_cons_succ]
          refine wpAnyH_ready (rs := [1, 9]) (by kernel_rfl) (by simp) ?_
          refine AllReadyH.cons (o := ⟨some 121, _, _, _, _, _⟩) rfl (fun K hK => ?_) ?_
          · go_simp
            (with_reducible refine (te _ (bstep EE.out F0.out.kp)).mono ?_)
            rintro e w2x ⟨u2, rfl, O2, hb⟩
            have O2 := Lib.hid O2
            have F1 := Lib.hid (F0.out.low hb)
            go_wp2_with fail
            refine hK.out _ _ ?_ (fun hHeld2 => ?_)
            · exact ⟨cell_later hb hHeld.1, cell_later hb hHeld.2.1, cell_later hb hHeld.2.2.1, cell_later hb hHeld.2.2.2.1, cell_later hb hHeld.2.2.2.2.1, cell_later hb hHeld.2.2.2.2.2.1, cell_later hb hHeld.2.2.2.2.2.2.1, cell_later hb hHeld.2.2.2.2.2.2.2.1, cell_later hb hHeld.2.2.2.2.2.2.2.2⟩
            clear hK K hHeld hb
            have hHeld := hHeld2
            clear hHeld2
            try simp only [Act.put, List.setIfInBounds_toArray, List.set_cons_zero, List.set_cons_succ]
            refine wpAnyH_ready (rs := [3, 9]) (by kernel_rfl) (by simp) ?_
            refine AllReadyH.cons (o := ⟨some 123, _, _, _, _, _⟩) rfl (fun K hK => ?_) ?_
            · go_simp
              (with_reducible refine (tx _ (bstep EE.out F1.out.kp)).mono ?_)
              rintro e w3x ⟨bp2, p2, _, rfl, P2, hb⟩
              obtain ⟨pn2, rfl⟩ : ∃ pc, p2 = .slice (some ⟨bp2, 0, none⟩) X.deps.length pc := by obtain ⟨c, e, _⟩ := P2.shape; exact ⟨_, e⟩
              have P2 := Lib.hid P2
              replace O2 := Lib.hid (O2.out.up hb)
              have F2 := Lib.hid (F1.out.low hb)
              go_wp2_with fail
              refine hK.out _ _ ?_ (fun hHeld2 => ?_)
              · exact ⟨cell_later hb hHeld.1, cell_later hb hHeld.2.1, cell_later hb hHeld.2.2.1, cell_later hb hHeld.2.2.2.1, cell_later hb hHeld.2.2.2.2.1, cell_later hb hHeld.2.2.2.2.2.1, cell_later hb hHeld.2.2.2.2.2.2.1, cell_later hb hHeld.2.2.2.2.2.2.2.1, cell_later hb hHeld.2.2.2.2.2.2.2.2⟩
              clear hK K hHeld hb
              have hHeld := hHeld2
              clear hHeld2
              try simp only [Act.put, List.setIfInBounds_toArray, List.set_cons_zero, List.set_cons_succ]
              refine wpAnyH_ready (rs := [4, 9]) (by kernel_rfl) (by simp) ?_
              refine AllReadyH.cons (o := ⟨some 124, _, _, _, _, _⟩) rfl (fun K hK => ?_) ?_
              · go_simp
                have hbx4 := fun b e => lt_of_heap (F2.out.bx b e).2
                (with_reducible refine (ir _ _ _ (TabIn.up hT.out (bstep EE.out F2.out.kp) (Nat.le_refl _)) O2.out.read P2.out.read).mono ?_)
                rintro e w4x ⟨g4, c4, a4, m4, d4, rfl, R4, hb⟩
                unfold env
                have R4 := Lib.hid R4
                have F3 := Lib.hid (F2.out.low hb)
                clear O2 P2
                go_wp2_with fail
                refine hK.out _ _ ?_ (fun hHeld2 => ?_)
                · exact ⟨cell_later hb hHeld.1, cell_later hb hHeld.2.1, cell_later hb hHeld.2.2.1, cell_later hb hHeld.2.2.2.1, cell_later hb hHeld.2.2.2.2.1, cell_later hb hHeld.2.2.2.2.2.1, cell_later hb hHeld.2.2.2.2.2.2.1, cell_later hb hHeld.2.2.2.2.2.2.2.1, cell_later hb hHeld.2.2.2.2.2.2.2.2⟩
                clear hK K hHeld hb
                have hHeld := hHeld2
                clear hHeld2
                try simp only [Act.put, List.setIfInBounds_toArray, List.set_cons_zero, List.set_cons_succ]
                refine wpAnyH_take (i := 5) (oi := ⟨some 119, _, _, _, _, _⟩) (v := ?_) rfl (by kernel_rfl) (by kernel_rfl) (by kernel_rfl) (fun _ _ _ h => h) (Or.inl ⟨by rfl, ?_⟩) (by assumption) ?_
                rotate_left 1
                · intro w hSw; (try dsimp only at hSw); go_simp; try (with_reducible rfl)
                try simp only [Act.put, List.setIfInBounds_toArray, List.set_cons_zero, List.set_cons_succ]
                refine wpAnyH_take (i := 6) (oi := ⟨some 125, _, _, _, _, _⟩) (v := ?_) rfl (by kernel_rfl) (by kernel_rfl) (by kernel_rfl) (fun _ _ _ h => h) (Or.inl ⟨by rfl, ?_⟩) (by assumption) ?_
                rotate_left 1
                · intro w hSw; (try dsimp only at hSw); go_simp; try (with_reducible rfl)
                try simp only [Act.put, List.setIfInBounds_toArray, List.set_cons_zero, List.set_cons_succ]
                refine wpAnyH_take (i := 7) (oi := ⟨some 126, _, _, _, _, _⟩) (v := ?_) rfl (by kernel_rfl) (by kernel_rfl) (by kernel_rfl) (fun _ _ _ h => h) (Or.inl ⟨by rfl, ?_⟩) (by assumption) ?_
                rotate_left 1
                · intro w hSw; (try dsimp only at hSw); go_simp; try (with_reducible rfl)
                try simp only [Act.put, List.setIfInBounds_toArray, List.set_cons_zero, List.set_cons_succ]
                refine wpAnyH_take (i := 8) (oi := ⟨some 127, _, _, _, _, _⟩) (v := ?_) rfl (by kernel_rfl) (by kernel_rfl) (by kernel_rfl) (fun _ _ _ h => h) (Or.inl ⟨by rfl, ?_⟩) (by assumption) ?_
                rotate_left 1
                · intro w hSw; (try dsimp only at hSw); go_simp; try (with_reducible rfl)
                try simp only [Act.put, List.setIfInBounds_toArray, List.set_cons_zero, List.set_cons_succ]
                refine wpAnyH_ready (rs := [9]) (by kernel_rfl) (by simp) ?_
                refine AllReadyH.cons (o := ⟨some 18, _, _, _, _, _⟩) rfl (fun K hK => ?_) AllReadyH.nil
                have F4 := Lib.hid F3.out.box
                have BA := (Below.refl w4x.heap.size w4x).alloc (Nat.le_refl _) (.cells #[.int .i64 0, .int .i64 0, .int .i64 0, .int .i64 0, .int .i64 0, .int .i64 0, .int .i64 0, .int .i64 0, .slice none 0 0] 30)
                replace R4 := Lib.hid (R4.out.up BA)
                go_simp
                generalize (w4x.alloc (.cells #[.int .i64 0, .int .i64 0, .int .i64 0, .int .i64 0, .int .i64 0, .int .i64 0, .int .i64 0, .int .i64 0, .slice none 0 0] 30)) = V4 at F4 BA R4 ⊢
                refine hK.out _ _ ?_ (fun hHeld2 => ?_)
                · exact ⟨cell_later BA hHeld.1, cell_later BA hHeld.2.1, cell_later BA hHeld.2.2.1, cell_later BA hHeld.2.2.2.1, cell_later BA hHeld.2.2.2.2.1, cell_later BA hHeld.2.2.2.2.2.1, cell_later BA hHeld.2.2.2.2.2.2.1, cell_later BA hHeld.2.2.2.2.2.2.2.1, cell_later BA hHeld.2.2.2.2.2.2.2.2⟩
                clear hK K hHeld BA
                have hHeld := hHeld2
                clear hHeld2
                try simp only [Act.put, List.setIfInBounds_toArray, List.set_cons_zero, List.set_cons_succ]
                obtain ⟨g0, g1⟩ := F4.out.bx _ rfl
                obtain ⟨⟨n0, n1, n2, n3, n4, n5, n6, n7, n8⟩, ⟨m0, m1, m2, m3, m4, m5, m6, m7, m8⟩, hxl⟩ := nine_all g1
                have hY := F4.out.doneP (q := q) R4.out (by intro h; have := h.2; omega)
                have hYB : Below wn.heap.size wn _ := (by obtain ⟨_, _, _, _, _, _, _, _, _, _, _, _, _, h⟩ := hY; exact h)
                have hY := Lib.hid hY
                have hYB := Lib.hid hYB
                clear R4 hbx4
                refine wpAnyH_take (i := 10) (oi := ⟨some 17, _, _, _, _, _⟩) (v := ?_) rfl (by kernel_rfl) (by kernel_rfl) (by kernel_rfl) (fun _ _ _ h => h) (Or.inl ⟨by rfl, ?_⟩) (by assumption) ?_
                rotate_left 1
                · intro w hSw; (try dsimp only at hSw); go_simp; try (with_reducible rfl)
                try simp only [Act.put, List.setIfInBounds_toArray, List.set_cons_zero, List.set_cons_succ]
                refine wpAnyH_ready (rs := [11]) (by kernel_rfl) (by simp) ?_
                refine AllReadyH.cons (o := ⟨none, _, _, _, _, _⟩) rfl (fun K hK => ?_) AllReadyH.nil
                go_simp
                refine hK.out _ _ ?_ (fun hHeld2 => ?_)
                · exact ⟨cell_later hYB.out i0, cell_later hYB.out i1, cell_later hYB.out i2, cell_later hYB.out i3, cell_later hYB.out i4, cell_later hYB.out i5, cell_later hYB.out i6, cell_later hYB.out i7, cell_later hYB.out i8⟩
                clear hK K hHeld F4 n0 n1 n2 n3 n4 n5 n6 n7 n8 m0 m1 m2 m3 m4 m5 m6 m7 m8 g0 g1
                have hHeld := hHeld2
                clear hHeld2
                try simp only [Act.put, List.setIfInBounds_toArray, List.set_cons_zero, List.set_cons_succ]
                refine wpAnyH_take (i := 12) (oi := ⟨some 19, _, _, _, _, _⟩) (v := ?_) rfl (by kernel_rfl) (by kernel_rfl) (by kernel_rfl) (fun _ _ _ h => h) (Or.inl ⟨by rfl, ?_⟩) (by assumption) ?_
                rotate_left 1
                · intro w hSw; (try dsimp only at hSw); go_simp; try (with_reducible rfl)
                try simp only [Act.put, List.setIfInBounds_toArray, List.set_cons_zero, List.set_cons_succ]
                refine wpAnyH_done (by kernel_rfl) ?_ _
                try simp only [Act.put, List.setIfInBounds_toArray, List.set_cons_zero, List.set_cons_succ]
                go_wp2_with fail
                go_meet
                exact hY
              refine AllReadyH.cons (o := ⟨some 18, _, _, _, _, _⟩) rfl (fun K hK => ?_) AllReadyH.nil
              have F3 := Lib.hid F2.out.box
              have BA := (Below.refl w3x.heap.size w3x).alloc (Nat.le_refl _) (.cells #[.int .i64 0, .int .i64 0, .int .i64 0, .int .i64 0, .int .i64 0, .int .i64 0, .int .i64 0, .int .i64 0, .slice none 0 0] 30)
              replace O2 := Lib.hid (O2.out.up BA)
              replace P2 := Lib.hid (P2.out.up BA P2.out.lt)
              go_simp
              generalize (w3x.alloc (.cells #[.int .i64 0, .int .i64 0, .int .i64 0, .int .i64 0, .int .i64 0, .int .i64 0, .int .i64 0, .int .i64 0, .slice none 0 0] 30)) = V3 at F3 BA O2 P2 ⊢
              refine hK.out _ _ ?_ (fun hHeld2 => ?_)
              · exact ⟨cell_later BA hHeld.1, cell_later BA hHeld.2.1, cell_later BA hHeld.2.2.1, cell_later BA hHeld.2.2.2.1, cell_later BA hHeld.2.2.2.2.1, cell_later BA hHeld.2.2.2.2.2.1, cell_later BA hHeld.2.2.2.2.2.2.1, cell_later BA hHeld.2.2.2.2.2.2.2.1, cell_later BA hHeld.2.2.2.2.2.2.2.2⟩
              clear hK K hHeld BA
              have hHeld := hHeld2
              clear hHeld2
              try simp only [Act.put, List.setIfInBounds_toArray, List.set_cons_zero, List.set_cons_succ]
              refine wpAnyH_ready (rs := [4]) (by kernel_rfl) (by simp) ?_
              refine AllReadyH.cons (o := ⟨some 124, _, _, _, _, _⟩) rfl (fun K hK => ?_) AllReadyH.nil
              go_simp
              have hbx4 := fun b e => lt_of_heap (F3.out.bx b e).2
              (with_reducible refine (ir _ _ _ (TabIn.up hT.out (bstep EE.out F3.out.kp) (Nat.le_refl _)) O2.out.read P2.out.read).mono ?_)
              rintro e w4x ⟨g4, c4, a4, m4, d4, rfl, R4, hb⟩
              unfold env
              have R4 := Lib.hid R4
              have F4 := Lib.hid (F3.out.low hb)
              clear O2 P2
              go_wp2_with fail
              refine hK.out _ _ ?_ (fun hHeld2 => ?_)
              · exact ⟨cell_later hb hHeld.1, cell_later hb hHeld.2.1, cell_later hb hHeld.2.2.1, cell_later hb hHeld.2.2.2.1, cell_later hb hHeld.2.2.2.2.1, cell_later hb hHeld.2.2.2.2.2.1, cell_later hb hHeld.2.2.2.2.2.2.1, cell_later hb hHeld.2.2.2.2.2.2.2.1, cell_later hb hHeld.2.2.2.2.2.2.2.2⟩
              clear hK K hHeld hb
              have hHeld := hHeld2
              clear hHeld2
              try simp only [Act.put, List.setIfInBounds_toArray, List.set_cons_zero, List.set_cons_succ]
              refine wpAnyH_take (i := 5) (oi := ⟨some 119, _, _, _, _, _⟩) (v := ?_) rfl (by kernel_rfl) (by kernel_rfl) (by kernel_rfl) (fun _ _ _ h => h) (Or.inl ⟨by rfl, ?_⟩) (by assumption) ?_
              rotate_left 1
              · intro w hSw; (try dsimp only at hSw); go_simp; try (with_reducible rfl)
              try simp only [Act.put, List.setIfInBounds_toArray, List.set_cons_zero, List.set_cons_succ]
              refine wpAnyH_take (i := 6) (oi := ⟨some 125, _, _, _, _, _⟩) (v := ?_) rfl (by kernel_rfl) (by kernel_rfl) (by kernel_rfl) (fun _ _ _ h => h) (Or.inl ⟨by rfl, ?_⟩) (by assumption) ?_
              rotate_left 1
              · intro w hSw; (try dsimp only at hSw); go_simp; try (with_reducible rfl)
              try simp only [Act.put, List.setIfInBounds_toArray, List.set_cons_zero, List.set_cons_succ]
              refine wpAnyH_take (i := 7) (oi := ⟨some 126, _, _, _, _, _⟩) (v := ?_) rfl (by kernel_rfl) (by kernel_rfl) (by kernel_rfl) (fun _ _ _ h => h) (Or.inl ⟨by rfl, ?_⟩) (by assumption) ?_
              rotate_left 1
              · intro w hSw; (try dsimp only at hSw); go_simp; try (with_reducible rfl)
              try simp only [Act.put, List.setIfInBounds_toArray, List.set_cons_zero, List.set_cons_succ]
              refine wpAnyH_take (i := 8) (oi := ⟨some 127, _, _, _, _, _⟩) (v := ?_) rfl (by kernel_rfl) (by kernel_rfl) (by kernel_rfl) (fun _ _ _ h => h) (Or.inl ⟨by rfl, ?_⟩) (by assumption) ?_
              rotate_left 1
              · intro w hSw; (try dsimp only at hSw); go_simp; try (with_reducible rfl)
              try simp only [Act.put, List.setIfInBounds_toArray, List.set_cons_zero, List.set_cons_succ]
              obtain ⟨g0, g1⟩ := F4.out.bx _ rfl
              obtain ⟨⟨n0, n1, n2, n3, n4, n5, n6, n7, n8⟩, ⟨m0, m1, m2, m3, m4, m5, m6, m7, m8⟩, hxl⟩ := nine_all g1
              have hY := F4.out.doneP (q := q) R4.out (by intro h; have := hbx4 _ rfl; have := h.1; omega)
              have hYB : Below wn.heap.size wn _ := (by obtain ⟨_, _, _, _, _, _, _, _, _, _, _, _, _, h⟩ := hY; exact h)
              have hY := Lib.hid hY
              have hYB := Lib.hid hYB
              clear R4 hbx4
              refine wpAnyH_take (i := 10) (oi := ⟨some 17, _, _, _, _, _⟩) (v := ?_) rfl (by kernel_rfl) (by kernel_rfl) (by kernel_rfl) (fun _ _ _ h => h) (Or.inl ⟨by rfl, ?_⟩) (by assumption) ?_
              rotate_left 1
              · intro w hSw; (try dsimp only at hSw); go_simp; try (with_reducible rfl)
              try simp only [Act.put, List.setIfInBounds_toArray, List.set_cons_zero, List.set_cons_succ]
              refine wpAnyH_ready (rs := [11]) (by kernel_rfl) (by simp) ?_
              refine AllReadyH.cons (o := ⟨none, _, _, _, _, _⟩) rfl (fun K hK => ?_) AllReadyH.nil
              go_simp
              refine hK.out _ _ ?_ (fun hHeld2 => ?_)
              · exact ⟨cell_later hYB.out i0, cell_later hYB.out i1, cell_later hYB.out i2, cell_later hYB.out i3, cell_later hYB.out i4, cell_later hYB.out i5, cell_later hYB.out i6, cell_later hYB.out i7, cell_later hYB.out i8⟩
              clear hK K hHeld F4 n0 n1 n2 n3 n4 n5 n6 n7 n8 m0 m1 m2 m3 m4 m5 m6 m7 m8 g0 g1
              have hHeld := hHeld2
              clear hHeld2
              try simp only [Act.put, List.setIfInBounds_toArray, List.set_cons_zero, List.set_cons_succ]
              refine wpAnyH_take (i := 12) (oi := ⟨some 19, _, _, _, _, _⟩) (v := ?_) rfl (by kernel_rfl) (by kernel_rfl) (by kernel_rfl) (fun _ _ _ h => h) (Or.inl ⟨by rfl, ?_⟩) (by assumption) ?_
              rotate_left 1
              · intro w hSw; (try dsimp only at hSw); go_simp; try (with_reducible rfl)
              try simp only [Act.put, List.setIfInBounds_toArray, List.set_cons_zero, List.set_cons_succ]
              refine wpAnyH_done (by kernel_rfl) ?_ _
              try simp only [Act.put, List.setIfInBounds_toArray, List.set_cons_zero, List.set_cons_succ]
              go_wp2_with fail
              go_meet
              exact hY
            refine AllReadyH.cons (o := ⟨some 18, _, _, _, _, _⟩) rfl (fun K hK => ?_) AllReadyH.nil
            have F2 := Lib.hid F1.out.box
            have BA := (Below.refl w2x.heap.size w2x).alloc (Nat.le_refl _) (.cells #[.int .i64 0, .int .i64 0, .int .i64 0, .int .i64 0, .int .i64 0, .int .i64 0, .int .i64 0, .int .i64 0, .slice none 0 0] 30)
            replace O2 := Lib.hid (O2.out.up BA)
            go_simp
            generalize (w2x.alloc (.cells #[.int .i64 0, .int .i64 0, .int .i64 0, .int .i64 0, .int .i64 0, .int .i64 0, .int .i64 0, .int .i64 0, .slice none 0 0] 30)) = V2 at F2 BA O2 ⊢
            refine hK.out _ _ ?_ (fun hHeld2 => ?_)
            · exact ⟨cell_later BA hHeld.1, cell_later BA hHeld.2.1, cell_later BA hHeld.2.2.1, cell_later BA hHeld.2.2.2.1, cell_later BA hHeld.2.2.2.2.1, cell_later BA hHeld.2.2.2.2.2.1, cell_later BA hHeld.2.2.2.2.2.2.1, cell_later BA hHeld.2.2.2.2.2.2.2.1, cell_later BA hHeld.2.2.2.2.2.2.2.2⟩
            clear hK K hHeld BA
            have hHeld := hHeld2
            clear hHeld2
            try simp only [Act.put, List.setIfInBounds_toArray, List.set_cons_zero, List.set_cons_succ]
            refine wpAnyH_ready (rs := [3]) (by kernel_rfl) (by simp) ?_
            refine AllReadyH.cons (o := ⟨some 123, _, _, _, _, _⟩) rfl (fun K hK => ?_) AllReadyH.nil
            go_simp
            (with_reducible refine (tx _ (bstep EE.out F2.out.kp)).mono ?_)
            rintro e w3x ⟨bp2, p2, _, rfl, P2, hb⟩
            obtain ⟨pn2, rfl⟩ : ∃ pc, p2 = .slice (some ⟨bp2, 0, none⟩) X.deps.length pc := by obtain ⟨c, e, _⟩ := P2.shape; exact ⟨_, e⟩
            have P2 := Lib.hid P2
            replace O2 := Lib.hid (O2.out.up hb)
            have F3 := Lib.hid (F2.out.low hb)
            go_wp2_with fail
            refine hK.out _ _ ?_ (fun hHeld2 => ?_)
            · exact ⟨cell_later hb hHeld.1, cell_later hb hHeld.2.1, cell_later hb hHeld.2.2.1, cell_later hb hHeld.2.2.2.1, cell_later hb hHeld.2.2.2.2.1, cell_later hb hHeld.2.2.2.2.2.1, cell_later hb hHeld.2.2.2.2.2.2.1, cell_later hb hHeld.2.2.2.2.2.2.2.1, cell_later hb hHeld.2.2.2.2.2.2.2.2⟩
            clear hK K hHeld hb
            have hHeld := hHeld2
            clear hHeld2
            try simp only [Act.put, List.setIfInBounds_toArray, List.set_cons_zero, List.set_cons_succ]
            refine wpAnyH_ready (rs := [4]) (by kernel_rfl) (by simp) ?_
            refine AllReadyH.cons (o := ⟨some 124, _, _, _, _, _⟩) rfl (fun K hK => ?_) AllReadyH.nil
            go_simp
            have hbx4 := fun b e => lt_of_heap (F3.out.bx b e).2
            (with_reducible refine (ir _ _ _ (TabIn.up hT.out (bstep EE.out F3.out.kp) (Nat.le_refl _)) O2.out.read P2.out.read).mono ?_)
            rintro e w4x ⟨g4, c4, a4, m4, d4, rfl, R4, hb⟩
            unfold env
            have R4 := Lib.hid R4
            have F4 := Lib.hid (F3.out.low hb)
            clear O2 P2
            go_wp2_with fail
            refine hK.out _ _ ?_ (fun hHeld2 => ?_)
            · exact ⟨cell_later hb hHeld.1, cell_later hb hHeld.2.1, cell_later hb hHeld.2.2.1, cell_later hb hHeld.2.2.2.1, cell_later hb hHeld.2.2.2.2.1, cell_later hb hHeld.2.2.2.2.2.1, cell_later hb hHeld.2.2.2.2.2.2.1, cell_later hb hHeld.2.2.2.2.2.2.2.1, cell_later hb hHeld.2.2.2.2.2.2.2.2⟩
            clear hK K hHeld hb
            have hHeld := hHeld2
            clear hHeld2
            try simp only [Act.put, List.setIfInBounds_toArray, List.set_cons_zero, List.set_cons_succ]
            refine wpAnyH_take (i := 5) (oi := ⟨some 119, _, _, _, _, _⟩) (v := ?_) rfl (by kernel_rfl) (by kernel_rfl) (by kernel_rfl) (fun _ _ _ h => h) (Or.inl ⟨by rfl, ?_⟩) (by assumption) ?_
            rotate_left 1
            · intro w hSw; (try dsimp only at hSw); go_simp; try (with_reducible rfl)
            try simp only [Act.put, List.setIfInBounds_toArray, List.set_cons_zero, List.set_cons_succ]
            refine wpAnyH_take (i := 6) (oi := ⟨some 125, _, _, _, _, _⟩) (v := ?_) rfl (by kernel_rfl) (by kernel_rfl) (by kernel_rfl) (fun _ _ _ h => h) (Or.inl ⟨by rfl, ?_⟩) (by assumption) ?_
            rotate_left 1
            · intro w hSw; (try dsimp only at hSw); go_simp; try (with_reducible rfl)
            try simp only [Act.put, List.setIfInBounds_toArray, List.set_cons_zero, List.set_cons_succ]
            refine wpAnyH_take (i := 7) (oi := ⟨some 126, _, _, _, _, _⟩) (v := ?_) rfl (by kernel_rfl) (by kernel_rfl) (by kernel_rfl) (fun _ _ _ h => h) (Or.inl ⟨by rfl, ?_⟩) (by assumption) ?_
            rotate_left 1
            · intro w hSw; (try dsimp only at hSw); go_simp; try (with_reducible rfl)
            try simp only [Act.put, List.setIfInBounds_toArray, List.set_cons_zero, List.set_cons_succ]
            refine wpAnyH_take (i := 8) (oi := ⟨some 127, _, _, _, _, _⟩) (v := ?_) rfl (by kernel_rfl) (by kernel_rfl) (by kernel_rfl) (fun _ _ _ h => h) (Or.inl ⟨by rfl, ?_⟩) (by assumption) ?_
            rotate_left 1
            · intro w hSw; (try dsimp only at hSw); go_simp; try (with_reducible rfl)
            try simp only [Act.put, List.setIfInBounds_toArray, List.set_cons_zero, List.set_cons_succ]
            obtain ⟨g0, g1⟩ := F4.out.bx _ rfl
            obtain ⟨⟨n0, n1, n2, n3, n4, n5, n6, n7, n8⟩, ⟨m0, m1, m2, m3, m4, m5, m6, m7, m8⟩, hxl⟩ := nine_all g1
            have hY := F4.out.doneP (q := q) R4.out (by intro h; have := hbx4 _ rfl; have := h.1; omega)
            have hYB : Below wn.heap.size wn _ := (by obtain ⟨_, _, _, _, _, _, _, _, _, _, _, _, _, h⟩ := hY; exact h)
            have hY := Lib.hid hY
            have hYB := Lib.hid hYB
            clear R4 hbx4
            refine wpAnyH_take (i := 10) (oi := ⟨some 17, _, _, _, _, _⟩) (v := ?_) rfl (by kernel_rfl) (by kernel_rfl) (by kernel_rfl) (fun _ _ _ h => h) (Or.inl ⟨by rfl, ?_⟩) (by assumption) ?_
            rotate_left 1
            · intro w hSw; (try dsimp only at hSw); go_simp; try (with_reducible rfl)
            try simp only [Act.put, List.setIfInBounds_toArray, List.set_cons_zero, List.set_cons_succ]
            refine wpAnyH_ready (rs := [11]) (by kernel_rfl) (by simp) ?_
            refine AllReadyH.cons (o := ⟨none, _, _, _, _, _⟩) rfl (fun K hK => ?_) AllReadyH.nil
            go_simp
            refine hK.out _ _ ?_ (fun hHeld2 => ?_)
            · exact ⟨cell_later hYB.out i0, cell_later hYB.out i1, cell_later hYB.out i2, cell_later hYB.out i3, cell_later hYB.out i4, cell_later hYB.out i5, cell_later hYB.out i6, cell_later hYB.out i7, cell_later hYB.out i8⟩
            clear hK K hHeld F4 n0 n1 n2 n3 n4 n5 n6 n7 n8 m0 m1 m2 m3 m4 m5 m6 m7 m8 g0 g1
            have hHeld := hHeld2
            clear hHeld2
            try simp only [Act.put, List.setIfInBounds_toArray, List.set_cons_zero, List.set_cons_succ]
            refine wpAnyH_take (i := 12) (oi := ⟨some 19, _, _, _, _, _⟩) (v := ?_) rfl (by kernel_rfl) (by kernel_rfl) (by kernel_rfl) (fun _ _ _ h => h) (Or.inl ⟨by rfl, ?_⟩) (by assumption) ?_
            rotate_left 1
            · intro w hSw; (try dsimp only at hSw); go_simp; try (with_reducible rfl)
            try simp only [Act.put, List.setIfInBounds_toArray, List.set_cons_zero, List.set_cons_succ]
            refine wpAnyH_done (by kernel_rfl) ?_ _
            try simp only [Act.put, List.setIfInBounds_toArray, List.set_cons_zero, List.set_cons_succ]
            go_wp2_with fail
            go_meet
            exact hY
          refine AllReadyH.cons (o := ⟨some 18, _, _, _, _, _⟩) rfl (fun K hK => ?_) AllReadyH.nil
          have F1 := Lib.hid F0.out.box
          have BA := (Below.refl V0.heap.size V0).alloc (Nat.le_refl _) (.cells #[.int .i64 0, .int .i64 0, .int .i64 0, .int .i64 0, .int .i64 0, .int .i64 0, .int .i64 0, .int .i64 0, .slice none 0 0] 30)
          go_simp
          generalize (V0.alloc (.cells #[.int .i64 0, .int .i64 0, .int .i64 0, .int .i64 0, .int .i64 0, .int .i64 0, .int .i64 0, .int .i64 0, .slice none 0 0] 30)) = V1 at F1 BA  ⊢
          refine hK.out _ _ ?_ (fun hHeld2 => ?_)
          · exact ⟨cell_later BA hHeld.1, cell_later BA hHeld.2.1, cell_later BA hHeld.2.2.1, cell_later BA hHeld.2.2.2.1, cell_later BA hHeld.2.2.2.2.1, cell_later BA hHeld.2.2.2.2.2.1, cell_later BA hHeld.2.2.2.2.2.2.1, cell_later BA hHeld.2.2.2.2.2.2.2.1, cell_later BA hHeld.2.2.2.2.2.2.2.2⟩
          clear hK K hHeld BA
          have hHeld := hHeld2
          clear hHeld2
          try simp only [Act.put, List.setIfInBounds_toArray, List.set_cons_zero, List.set_cons_succ]
          refine wpAnyH_ready (rs := [1]) (by kernel_rfl) (by simp) ?_
          refine AllReadyH.cons (o := ⟨some 121, _, _, _, _, _⟩) rfl (fun K hK => ?_) AllReadyH.nil
          go_simp
          (with_reducible refine (te _ (bstep EE.out F1.out.kp)).mono ?_)
          rintro e w2x ⟨u2, rfl, O2, hb⟩
          have O2 := Lib.hid O2
          have F2 := Lib.hid (F1.out.low hb)
          go_wp2_with fail
          refine hK.out _ _ ?_ (fun hHeld2 => ?_)
          · exact ⟨cell_later hb hHeld.1, cell_later hb hHeld.2.1, cell_later hb hHeld.2.2.1, cell_later hb hHeld.2.2.2.1, cell_later hb hHeld.2.2.2.2.1, cell_later hb hHeld.2.2.2.2.2.1, cell_later hb hHeld.2.2.2.2.2.2.1, cell_later hb hHeld.2.2.2.2.2.2.2.1, cell_later hb hHeld.2.2.2.2.2.2.2.2⟩
          clear hK K hHeld hb
          have hHeld := hHeld2
          clear hHeld2
          try simp only [Act.put, List.setIfInBounds_toArray, List.set_cons_zero, List.set_cons_succ]
          refine wpAnyH_ready (rs := [3]) (by kernel_rfl) (by simp) ?_
          refine AllReadyH.cons (o := ⟨some 123, _, _, _, _, _⟩) rfl (fun K hK => ?_) AllReadyH.nil
          go_simp
          (with_reducible refine (tx _ (bstep EE.out F2.out.kp)).mono ?_)
          rintro e w3x ⟨bp2, p2, _, rfl, P2, hb⟩
          obtain ⟨pn2, rfl⟩ : ∃ pc, p2 = .slice (some ⟨bp2, 0, none⟩) X.deps.length pc := by obtain ⟨c, e, _⟩ := P2.shape; exact ⟨_, e⟩
          have P2 := Lib.hid P2
          replace O2 := Lib.hid (O2.out.up hb)
          have F3 := Lib.hid (F2.out.low hb)
          go_wp2_with fail
          refine hK.out _ _ ?_ (fun hHeld2 => ?_)
          · exact ⟨cell_later hb hHeld.1, cell_later hb hHeld.2.1, cell_later hb hHeld.2.2.1, cell_later hb hHeld.2.2.2.1, cell_later hb hHeld.2.2.2.2.1, cell_later hb hHeld.2.2.2.2.2.1, cell_later hb hHeld.2.2.2.2.2.2.1, cell_later hb hHeld.2.2.2.2.2.2.2.1, cell_later hb hHeld.2.2.2.2.2.2.2.2⟩
          clear hK K hHeld hb
          have hHeld := hHeld2
          clear hHeld2
          try simp only [Act.put, List.setIfInBounds_toArray, List.set_cons_zero, List.set_cons_succ]
          refine wpAnyH_ready (rs := [4]) (by kernel_rfl) (by simp) ?_
          refine AllReadyH.cons (o := ⟨some 124, _, _, _, _, _⟩) rfl (fun K hK => ?_) AllReadyH.nil
          go_simp
          have hbx4 := fun b e => lt_of_heap (F3.out.bx b e).2
          (with_reducible refine (ir _ _ _ (TabIn.up hT.out (bstep EE.out F3.out.kp) (Nat.le_refl _)) O2.out.read P2.out.read).mono ?_)
          rintro e w4x ⟨g4, c4, a4, m4, d4, rfl, R4, hb⟩
          unfold env
          have R4 := Lib.hid R4
          have F4 := Lib.hid (F3.out.low hb)
          clear O2 P2
          go_wp2_with fail
          refine hK.out _ _ ?_ (fun hHeld2 => ?_)
          · exact ⟨cell_later hb hHeld.1, cell_later hb hHeld.2.1, cell_later hb hHeld.2.2.1, cell_later hb hHeld.2.2.2.1, cell_later hb hHeld.2.2.2.2.1, cell_later hb hHeld.2.2.2.2.2.1, cell_later hb hHeld.2.2.2.2.2.2.1, cell_later hb hHeld.2.2.2.2.2.2.2.1, cell_later hb hHeld.2.2.2.2.2.2.2.2⟩
          clear hK K hHeld hb
          have hHeld := hHeld2
          clear hHeld2
          try simp only [Act.put, List.setIfInBounds_toArray, List.set_cons_zero, List.set_cons_succ]
          refine wpAnyH_take (i := 5) (oi := ⟨some 119, _, _, _, _, _⟩) (v := ?_) rfl (by kernel_rfl) (by kernel_rfl) (by kernel_rfl) (fun _ _ _ h => h) (Or.inl ⟨by rfl, ?_⟩) (by assumption) ?_
          rotate_left 1
          · intro w hSw; (try dsimp only at hSw); go_simp; try (with_reducible rfl)
          try simp only [Act.put, List.setIfInBounds_toArray, List.set_cons_zero, List.set_cons_succ]
          refine wpAnyH_take (i := 6) (oi := ⟨some 125, _, _, _, _, _⟩) (v := ?_) rfl (by kernel_rfl) (by kernel_rfl) (by kernel_rfl) (fun _ _ _ h => h) (Or.inl ⟨by rfl, ?_⟩) (by assumption) ?_
          rotate_left 1
          · intro w hSw; (try dsimp only at hSw); go_simp; try (with_reducible rfl)
          try simp only [Act.put, List.setIfInBounds_toArray, List.set_cons_zero, List.set_cons_succ]
          refine wpAnyH_take (i := 7) (oi := ⟨some 126, _, _, _, _, _⟩) (v := ?_) rfl (by kernel_rfl) (by kernel_rfl) (by kernel_rfl) (fun _ _ _ h => h) (Or.inl ⟨by rfl, ?_⟩) (by assumption) ?_
          rotate_left 1
          · intro w hSw; (try dsimp only at hSw); go_simp; try (with_reducible rfl)
          try simp only [Act.put, List.setIfInBounds_toArray, List.set_cons_zero, List.set_cons_succ]
          refine wpAnyH_take (i := 8) (oi := ⟨some 127, _, _, _, _, _⟩) (v := ?_) rfl (by kernel_rfl) (by kernel_rfl) (by kernel_rfl) (fun _ _ _ h => h) (Or.inl ⟨by rfl, ?_⟩) (by assumption) ?_
          rotate_left 1
          · intro w hSw; (try dsimp only at hSw); go_simp; try (with_reducible rfl)
          try simp only [Act.put, List.setIfInBounds_toArray, List.set_cons_zero, List.set_cons_succ]
          obtain ⟨g0, g1⟩ := F4.out.bx _ rfl
          obtain ⟨⟨n0, n1, n2, n3, n4, n5, n6, n7, n8⟩, ⟨m0, m1, m2, m3, m4, m5, m6, m7, m8⟩, hxl⟩ := nine_all g1
          have hY := F4.out.doneP (q := q) R4.out (by intro h; have := hbx4 _ rfl; have := h.1; omega)
          have hYB : Below wn.heap.size wn _ := (by obtain ⟨_, _, _, _, _, _, _, _, _, _, _, _, _, h⟩ := hY; exact h)
          have hY := Lib.hid hY
          have hYB := Lib.hid hYB
          clear R4 hbx4
          refine wpAnyH_take (i := 10) (oi := ⟨some 17, _, _, _, _, _⟩) (v := ?_) rfl (by kernel_rfl) (by kernel_rfl) (by kernel_rfl) (fun _ _ _ h => h) (Or.inl ⟨by rfl, ?_⟩) (by assumption) ?_
          rotate_left 1
          · intro w hSw; (try dsimp only at hSw); go_simp; try (with_reducible rfl)
          try simp only [Act.put, List.setIfInBounds_toArray, List.set_cons_zero, List.set_cons_succ]
          refine wpAnyH_ready (rs := [11]) (by kernel_rfl) (by simp) ?_
          refine AllReadyH.cons (o := ⟨none, _, _, _, _, _⟩) rfl (fun K hK => ?_) AllReadyH.nil
          go_simp
          refine hK.out _ _ ?_ (fun hHeld2 => ?_)
          · exact ⟨cell_later hYB.out i0, cell_later hYB.out i1, cell_later hYB.out i2, cell_later hYB.out i3, cell_later hYB.out i4, cell_later hYB.out i5, cell_later hYB.out i6, cell_later hYB.out i7, cell_later hYB.out i8⟩
          clear hK K hHeld F4 n0 n1 n2 n3 n4 n5 n6 n7 n8 m0 m1 m2 m3 m4 m5 m6 m7 m8 g0 g1
          have hHeld := hHeld2
          clear hHeld2
          try simp only [Act.put, List.setIfInBounds_toArray, List.set_cons_zero, List.set_cons_succ]
          refine wpAnyH_take (i := 12) (oi := ⟨some 19, _, _, _, _, _⟩) (v := ?_) rfl (by kernel_rfl) (by kernel_rfl) (by kernel_rfl) (fun _ _ _ h => h) (Or.inl ⟨by rfl, ?_⟩) (by assumption) ?_
          rotate_left 1
          · intro w hSw; (try dsimp only at hSw); go_simp; try (with_reducible rfl)
          try simp only [Act.put, List.setIfInBounds_toArray, List.set_cons_zero, List.set_cons_succ]
          refine wpAnyH_done (by kernel_rfl) ?_ _
          try simp only [Act.put, List.setIfInBounds_toArray, List.set_cons_zero, List.set_cons_succ]
          go_wp2_with fail
          go_meet
          exact hY
        case rest =>
          obtain ⟨xb14, g14, c14, a14, m14, d14, rfl, rfl, rfl, X14, N14, I14, _, E14⟩ := hcut.out
          have X14 := Lib.hid X14
          have N14 := Lib.hid N14
          have I14 := Lib.hid I14
          replace K := Lib.hid (bstep K.out E14)
          replace X9 := Lib.hid (X9.out.up E14)
          replace M9 := Lib.hid (M9.out.up E14)
          replace O9 := Lib.hid (O9.out.up E14)
          clear hcut E14 i0 i1 i2 i3 i4 i5 i6 i7 i8 EE
          go_wp2_with fail
          refine (eqEs_any _ _ N _ N14.out (N5.out.up K.out (Nat.le_refl _))).mono ?_
          rintro e w30 ⟨rfl, B⟩
          replace K := Lib.hid (bstep K.out B)
          replace X9 := Lib.hid (X9.out.up B)
          replace M9 := Lib.hid (M9.out.up B)
          replace O9 := Lib.hid (O9.out.up B)
          replace X14 := Lib.hid (X14.out.up B)
          replace I14 := Lib.hid (I14.out.up B (Nat.le_refl _))
          clear B N14
          have X5c := X5.out.up K.out
          obtain ⟨⟨p0, p1, p2, p3, p4, p5, p6, p7, p8⟩, pl⟩ := X5c.cells
          obtain ⟨⟨r0, r1, r2, r3, r4, r5, r6, r7, r8⟩, rl⟩ := X14.out.cells
          go_wp2_with fail
          refine (eqE_any Y _ _ _ I14.out (I5.out.up K.out (Nat.le_refl _))).mono ?_
          rintro e w31 ⟨rfl, B⟩
          clear p0 p1 p2 p3 p4 p5 p6 p7 p8 pl r0 r1 r2 r3 r4 r5 r6 r7 r8 rl X5c
          replace K := Lib.hid (bstep K.out B)
          replace X9 := Lib.hid (X9.out.up B)
          replace M9 := Lib.hid (M9.out.up B)
          replace O9 := Lib.hid (O9.out.up B)
          clear B X14 I14
          have hl31 := heldL_any _ _ _ N 1 _ M9.out hN12 hNd.out (by omega) (by omega)
          rw [hkk.out] at hl31
          go_wp2_with fail
          refine hl31.mono ?_
          rintro e w32 ⟨rfl, B⟩
          replace K := Lib.hid (bstep K.out B)
          replace X9 := Lib.hid (X9.out.up B)
          replace O9 := Lib.hid (O9.out.up B)
          clear B hl31
          obtain ⟨⟨r0, r1, r2, r3, r4, r5, r6, r7, r8⟩, rl⟩ := X9.out.cells
          have he := heldE_z Y (.slice va9 vn9 vc9) kk M _ hMk.out O9.out.read (by omega) (by omega)
          rw [hM.out] at he
          unfold env at he
          go_wp2_with fail
          refine he.mono ?_
          rintro e w33 ⟨rfl, B⟩
          have D9 := Lib.hid (bstep D1.out (bstep E5.out (bstep K.out B)))
          clear r0 r1 r2 r3 r4 r5 r6 r7 r8 rl B he
          go_wp2_with fail
          go_ret
          exact ⟨rfl, D9.out⟩
end Go.Proofs.YtdikcenhakfheaaGreatDoor
