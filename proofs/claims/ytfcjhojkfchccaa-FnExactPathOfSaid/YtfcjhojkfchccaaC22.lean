/- Texts laid together. -/
import Derived.Test.YtfcjhojkfchccaaC16
import Derived.Test.YtfcjhojkfchccaaC18
import Derived.Test.YtfcjhojkfchccaaC19
import Derived.Test.YtfcjhojkfchccaaC20
/- The walk of FnExactPathOf. -/
namespace Go.Proofs.Ytfcjhojkfchccaa
open Go.RowKit
set_option linter.unusedVariables false

theorem LEs.upC {w w' : World} {B : Nat} {a : Option Addr} {len cap : Nat} (h : LEs w a len cap) (hb : Below B w w') (hB : w.heap.size ≤ B) : LEs w' a len cap := by
  obtain ⟨h1, h2, h3⟩ := h
  refine ⟨h1, h2, ?_⟩
  rcases h3 with h3 | ⟨b, off, rfl, hl, hc⟩
  · exact .inl h3
  · refine .inr ⟨b, off, rfl, Nat.lt_of_lt_of_le hl hb.size, fun i hi => ?_⟩
    obtain ⟨x, ua, un, uc, e0, e1, e2, e3, e4, e5, e6, e7, e8, e9, e10⟩ := hc i hi
    have hcc : ∀ o, w'.cell? ⟨b, o, none⟩ = w.cell? ⟨b, o, none⟩ := fun o => hb.cell (p := ⟨b, o, none⟩) (Nat.lt_of_lt_of_le hl hB)
    exact ⟨x, ua, un, uc, by rw [hcc]; exact e0, by rw [hcc]; exact e1, by rw [hcc]; exact e2, by rw [hcc]; exact e3, by rw [hcc]; exact e4, by rw [hcc]; exact e5, by rw [hcc]; exact e6, by rw [hcc]; exact e7, by rw [hcc]; exact e8, e9, e10.imp id fun ⟨C, hC⟩ => ⟨C, hC.up hb hB⟩⟩
set_option maxRecDepth 100000 in
set_option maxHeartbeats 16000000 in
theorem exPathOf_any (n p r bal st k key v s : Int) (ua : Option Addr) (un uc : Nat) (a : Option Addr) (len cap : Nat) (w : World) (hun : un ≤ maxLen) (hid : 1048576 < un ∨ ∃ C, Ids w (.slice ua un uc) C) (h : LEs w a len cap) :
    Calls Try.prog 4 #[.int .i64 n, .agg #[.int .i64 p, .int .i64 r, .int .i64 bal, .int .i64 st, .int .i64 k, .int .i64 key, .int .i64 v, .int .i64 s, .slice ua un uc], .slice a len cap] w fun e w' => e = .returned (.bool true) ∧ Below w.heap.size w w' := by
  have sz := fun W => szE_any p r bal st k key v s ua un uc 1048576 W (by omega) (by omega) (by simpa [maxLen] using hun)
  have D0 := (Below.refl w.heap.size w).alloc (Nat.le_refl _) (.cells #[.int .i64 p, .int .i64 r, .int .i64 bal, .int .i64 st, .int .i64 k, .int .i64 key, .int .i64 v, .int .i64 s, .slice ua un uc] 40)
  have A := Lib.hid (heap_alloc_new w (.cells #[.int .i64 p, .int .i64 r, .int .i64 bal, .int .i64 st, .int .i64 k, .int .i64 key, .int .i64 v, .int .i64 s, .slice ua un uc] 40))
  have D := Lib.hid D0
  by_cases hl : (1048576 : Int) < (un : Int)
  · rw [if_pos hl] at sz
    clear h hid D0 A
    go_enter Try.func4, Try.ntmps4
    go_wp2_with fail
    refine (sz _).mono ?_
    rintro e w1 ⟨rfl, B⟩
    replace D := Lib.hid (bstep D.out B)
    clear B sz
    go_wp2_with fail
    go_ret
    exact ⟨rfl, D.out⟩
  · rw [if_neg hl] at sz
    obtain ⟨C, hC⟩ := hid.resolve_left (by omega)
    have hC := Lib.hid (hC.up D0 (Nat.le_refl _))
    obtain ⟨y, hy⟩ : ∃ y, (1048576 : Int) - (un : Int) = y := ⟨_, rfl⟩
    rw [hy] at sz
    have hy0 : ¬ y < 0 := by omega
    have zb := fun W (hb : Below w.heap.size w W) => szEc_any a len cap y (by omega) (by omega) W (h.upC hb (Nat.le_refl _))
    clear hy hl hun D0 h
    obtain ⟨X, e0, e1, e2, e3, e4, e5, e6, e7, e8⟩ : ∃ X : En, X.id.1 = p ∧ X.id.2 = r ∧ X.bal = bal ∧ X.st = st ∧ X.k = k ∧ X.key = key ∧ X.v = v ∧ X.seq = s ∧ X.deps = C := ⟨⟨(p, r), bal, st, k, key, v, s, C⟩, rfl, rfl, rfl, rfl, rfl, rfl, rfl, rfl, rfl⟩
    subst e0 e1 e2 e3 e4 e5 e6 e7 e8
    go_enter Try.func4, Try.ntmps4
    go_wp2_with fail
    refine (sz _).mono ?_
    rintro e w1 ⟨rfl, B⟩
    replace D := Lib.hid (bstep D.out B)
    replace A := Lib.hid (bblk B (by simp) A.out)
    replace hC := Lib.hid (hC.out.up B (Nat.le_refl _))
    clear B sz
    go_wp2_with fail
    refine (zb _ D.out).mono ?_
    rintro e w2 ⟨⟨z, rfl, hz⟩, B⟩
    rcases hz with rfl | ⟨hz0, hz1, E, hEl, hE⟩
    · replace D := Lib.hid (bstep D.out B)
      clear B zb
      go_wp2_with fail
      go_ret
      exact ⟨rfl, D.out⟩
    · have hzn : ¬ z < 0 := by omega
      replace hE := Lib.hid (hE.up B (Nat.le_refl _))
      replace D := Lib.hid (bstep D.out B)
      replace A := Lib.hid (bblk B (lt_of_heap A.out) A.out)
      replace hC := Lib.hid (hC.out.up B (Nat.le_refl _))
      clear B zb
      go_upto_region 8 with fail
      obtain ⟨ib, hib⟩ : ∃ ib, Hid (w.heap.size = ib) := ⟨_, Lib.hid rfl⟩
      have te := fun W (hb : Below w2.heap.size w2 W) => toEs_any _ E W (hE.out.up hb (Nat.le_refl _))
      have tx := fun W (hb : Below w2.heap.size w2 W) => toE_any X (.slice ua un uc) W (hC.out.up hb (Nat.le_refl _))
      have ip := fun u x W (H : Ids W u X.deps) (G : Ens W x E) => ipath_any n X u x E W H G
      have sp := fun u x W (H : Ids W u X.deps) (G : Ens W x E) => spath_any n X u x E W H G
      have qq := fun u v W hu hv => eqE_any X u v W hu hv
      have qs := fun u v W hu hv => eqEs_any u v E W hu hv
      unfold EnsCPost at te
      unfold EnCPost at tx
      unfold env at tx ip sp qq
      obtain ⟨R, hR⟩ : ∃ R, Hid (pathR n X E = R) := ⟨_, Lib.hid rfl⟩
      simp only [hR.out] at ip sp
      rw [hib.out] at A ⊢
      obtain ⟨m, hm⟩ : ∃ m, Hid (E.length = m) := ⟨_, Lib.hid rfl⟩
      obtain ⟨m2, hm2⟩ : ∃ m, Hid (X.deps.length = m) := ⟨_, Lib.hid rfl⟩
      clear hE hC hR hib hEl
      have E0 := Lib.hid (Below.refl w2.heap.size w2)
      obtain ⟨⟨y0, y1, y2, y3, y4, y5, y6, y7, y8⟩, _, yl⟩ := nine_all A.out
      go_wp2_with fail
      refine (tx _ E0.out).mono ?_
      rintro e w3 ⟨b1, u1, hb1, rfl, O1, B⟩
      replace E0 := Lib.hid (bstep E0.out B)
      replace A := Lib.hid (bblk B (lt_of_heap A.out) A.out)
      have I1 := Lib.hid O1.read
      clear B O1 y0 y1 y2 y3 y4 y5 y6 y7 y8 yl
      go_wp2_with fail
      refine (te _ E0.out).mono ?_
      rintro e w4 ⟨v1, rfl, O2, B⟩
      replace E0 := Lib.hid (bstep E0.out B)
      replace A := Lib.hid (bblk B (lt_of_heap A.out) A.out)
      replace I1 := Lib.hid (I1.out.up B (Nat.le_refl _))
      have G1 := Lib.hid O2.read
      clear B O2
      go_wp2_with fail
      refine (sp _ _ _ I1.out G1.out).mono ?_
      rintro e w5 ⟨rfl, B⟩
      replace E0 := Lib.hid (bstep E0.out B)
      replace A := Lib.hid (bblk B (lt_of_heap A.out) A.out)
      clear B I1 G1 sp
      obtain ⟨⟨y0, y1, y2, y3, y4, y5, y6, y7, y8⟩, _, yl⟩ := nine_all A.out
      go_wp2_with fail
      refine (tx _ E0.out).mono ?_
      rintro e w6 ⟨b2, u2, hb2, rfl, O2, B⟩
      obtain ⟨c2, rfl⟩ : ∃ c, u2 = .slice (some ⟨b2, 0, none⟩) m2 c := by obtain ⟨c, e, _⟩ := O2.shape; exact ⟨_, by rw [e, hm2.out]⟩
      have BA := (Below.refl w6.heap.size w6).alloc (Nat.le_refl _) (.cells #[.int .i64 X.id.1, .int .i64 X.id.2, .int .i64 X.bal, .int .i64 X.st, .int .i64 X.k, .int .i64 X.key, .int .i64 X.v, .int .i64 X.seq, .slice (some ⟨b2, 0, none⟩) m2 c2] 29)
      replace E0 := Lib.hid (bstep (bstep E0.out B) BA)
      replace A := Lib.hid (bblk (bstep B BA) (lt_of_heap A.out) A.out)
      have IX := Lib.hid (O2.read.up BA (Nat.le_refl _))
      have OX := Lib.hid (heap_alloc_new w6 (.cells #[.int .i64 X.id.1, .int .i64 X.id.2, .int .i64 X.bal, .int .i64 X.st, .int .i64 X.k, .int .i64 X.key, .int .i64 X.v, .int .i64 X.seq, .slice (some ⟨b2, 0, none⟩) m2 c2] 29))
      clear B BA O2 y0 y1 y2 y3 y4 y5 y6 y7 y8 yl
      go_upto_region 10 with fail
      generalize w6.heap.size = xb at OX ⊢
      generalize w6.alloc (.cells #[.int .i64 X.id.1, .int .i64 X.id.2, .int .i64 X.bal, .int .i64 X.st, .int .i64 X.k, .int .i64 X.key, .int .i64 X.v, .int .i64 X.seq, .slice (some ⟨b2, 0, none⟩) m2 c2] 29) = w7 at E0 A IX OX ⊢
      go_wp2_with fail
      refine (te _ E0.out).mono ?_
      rintro e w8 ⟨v2, rfl, O3, B⟩
      obtain ⟨vg, vc, rfl⟩ : ∃ g c, v2 = .slice (some ⟨g, 0, none⟩) m c := by obtain ⟨g, c, _, _, e, _⟩ := O3; exact ⟨g, c, by rw [e, hm.out]⟩
      replace E0 := Lib.hid (bstep E0.out B)
      replace A := Lib.hid (bblk B (lt_of_heap A.out) A.out)
      replace IX := Lib.hid (IX.out.up B (Nat.le_refl _))
      replace OX := Lib.hid (bblk B (lt_of_heap OX.out) OX.out)
      have GX := Lib.hid O3.read
      clear B O3
      obtain ⟨⟨o0, o1, o2, o3, o4, o5, o6, o7, o8⟩, _, ol⟩ := nine_all OX.out
      go_wp2_with fail
      refine (ip _ _ _ IX.out GX.out).mono ?_
      rintro e wz ⟨rfl, B⟩
      have EZ := Lib.hid (bstep E0.out B)
      replace A := Lib.hid (bblk B (lt_of_heap A.out) A.out)
      replace IX := Lib.hid (IX.out.up B (Nat.le_refl _))
      replace OX := Lib.hid (bblk B (lt_of_heap OX.out) OX.out)
      replace GX := Lib.hid (GX.out.up B (Nat.le_refl _))
      clear B o0 o1 o2 o3 o4 o5 o6 o7 o8 ol E0 ip
      obtain ⟨⟨o0, o1, o2, o3, o4, o5, o6, o7, o8⟩, _, ol⟩ := nine_all OX.out
      obtain ⟨⟨y0, y1, y2, y3, y4, y5, y6, y7, y8⟩, _, yl⟩ := nine_all A.out
      go_upto_region 14 with fail
      refine wp_region_held_drew (S := fun w' => w'.cell? ⟨xb, 0, none⟩ = some (.int .i64 X.id.1) ∧ w'.cell? ⟨xb, 1, none⟩ = some (.int .i64 X.id.2) ∧ w'.cell? ⟨xb, 2, none⟩ = some (.int .i64 X.bal) ∧ w'.cell? ⟨xb, 3, none⟩ = some (.int .i64 X.st) ∧ w'.cell? ⟨xb, 4, none⟩ = some (.int .i64 X.k) ∧ w'.cell? ⟨xb, 5, none⟩ = some (.int .i64 X.key) ∧ w'.cell? ⟨xb, 6, none⟩ = some (.int .i64 X.v) ∧ w'.cell? ⟨xb, 7, none⟩ = some (.int .i64 X.seq) ∧ w'.cell? ⟨xb, 8, none⟩ = some (.slice (some ⟨b2, 0, none⟩) m2 c2) ∧ w'.cell? ⟨ib, 0, none⟩ = some (.int .i64 X.id.1) ∧ w'.cell? ⟨ib, 1, none⟩ = some (.int .i64 X.id.2) ∧ w'.cell? ⟨ib, 2, none⟩ = some (.int .i64 X.bal) ∧ w'.cell? ⟨ib, 3, none⟩ = some (.int .i64 X.st) ∧ w'.cell? ⟨ib, 4, none⟩ = some (.int .i64 X.k) ∧ w'.cell? ⟨ib, 5, none⟩ = some (.int .i64 X.key) ∧ w'.cell? ⟨ib, 6, none⟩ = some (.int .i64 X.v) ∧ w'.cell? ⟨ib, 7, none⟩ = some (.int .i64 X.seq) ∧ w'.cell? ⟨ib, 8, none⟩ = some (.slice ua un uc) ∧ Below wz.heap.size wz w') (by kernel_rfl) ⟨o0, o1, o2, o3, o4, o5, o6, o7, o8, y0, y1, y2, y3, y4, y5, y6, y7, y8, Below.drew (Below.refl _ _)⟩ (fun hHeld => ?_)
      refine wpAnyH_take (i := 0) (oi := ⟨some 39, _, _, _, _, _⟩) (v := ?_) rfl (by kernel_rfl) (by kernel_rfl) (by kernel_rfl) (fun _ _ _ h => h) (Or.inl ⟨by rfl, ?_⟩) (by assumption) ?_
      rotate_left 1
      · intro w hSw; (try dsimp only at hSw); go_simp; try (with_reducible rfl)
      try simp only [Act.put, List.setIfInBounds_toArray, List.set_cons_zero, List.set_cons_succ]
      refine wpAnyH_take (i := 1) (oi := ⟨some 40, _, _, _, _, _⟩) (v := ?_) rfl (by kernel_rfl) (by kernel_rfl) (by kernel_rfl) (fun _ _ _ h => h) (Or.inl ⟨by rfl, ?_⟩) (by assumption) ?_
      rotate_left 1
      · intro w hSw; (try dsimp only at hSw); go_simp; try (with_reducible rfl)
      try simp only [Act.put, List.setIfInBounds_toArray, List.set_cons_zero, List.set_cons_succ]
      refine wpAnyH_ready (rs := [2]) (by kernel_rfl) (by simp) ?_
      refine AllReadyH.cons (o := ⟨some 41, _, _, _, _, _⟩) rfl (fun K hK => ?_) AllReadyH.nil
      go_simp
      with_reducible refine (tx _ (bstep EZ.out hHeld.2.2.2.2.2.2.2.2.2.2.2.2.2.2.2.2.2.2)).mono ?_
      rintro e wq2 ⟨b6, u6, hb6, rfl, O6, hb⟩
      go_wp2_with fail
      have I2 := Lib.hid (IX.out.up (bstep hHeld.2.2.2.2.2.2.2.2.2.2.2.2.2.2.2.2.2.2 hb) (Nat.le_refl _))
      have I6 := Lib.hid O6.read
      clear O6
      refine hK.out _ _ ?_ (fun hHeld2 => ?_)
      · exact ⟨cell_later hb hHeld.1, cell_later hb hHeld.2.1, cell_later hb hHeld.2.2.1, cell_later hb hHeld.2.2.2.1, cell_later hb hHeld.2.2.2.2.1, cell_later hb hHeld.2.2.2.2.2.1, cell_later hb hHeld.2.2.2.2.2.2.1, cell_later hb hHeld.2.2.2.2.2.2.2.1, cell_later hb hHeld.2.2.2.2.2.2.2.2.1, cell_later hb hHeld.2.2.2.2.2.2.2.2.2.1, cell_later hb hHeld.2.2.2.2.2.2.2.2.2.2.1, cell_later hb hHeld.2.2.2.2.2.2.2.2.2.2.2.1, cell_later hb hHeld.2.2.2.2.2.2.2.2.2.2.2.2.1, cell_later hb hHeld.2.2.2.2.2.2.2.2.2.2.2.2.2.1, cell_later hb hHeld.2.2.2.2.2.2.2.2.2.2.2.2.2.2.1, cell_later hb hHeld.2.2.2.2.2.2.2.2.2.2.2.2.2.2.2.1, cell_later hb hHeld.2.2.2.2.2.2.2.2.2.2.2.2.2.2.2.2.1, cell_later hb hHeld.2.2.2.2.2.2.2.2.2.2.2.2.2.2.2.2.2.1, hHeld.2.2.2.2.2.2.2.2.2.2.2.2.2.2.2.2.2.2.trans (hb.mono hHeld.2.2.2.2.2.2.2.2.2.2.2.2.2.2.2.2.2.2.size)⟩
      clear hK K hHeld hb
      have hHeld := hHeld2
      clear hHeld2
      try simp only [Act.put, List.setIfInBounds_toArray, List.set_cons_zero, List.set_cons_succ]
      refine wpAnyH_ready (rs := [3]) (by kernel_rfl) (by simp) ?_
      refine AllReadyH.cons (o := ⟨some 42, _, _, _, _, _⟩) rfl (fun K hK => ?_) AllReadyH.nil
      go_simp
      with_reducible refine (qq _ _ _ I2.out I6.out).mono ?_
      rintro e wq3 ⟨rfl, hb⟩
      go_wp2_with fail
      refine hK.out _ _ ?_ (fun hHeld2 => ?_)
      · exact ⟨cell_later hb hHeld.1, cell_later hb hHeld.2.1, cell_later hb hHeld.2.2.1, cell_later hb hHeld.2.2.2.1, cell_later hb hHeld.2.2.2.2.1, cell_later hb hHeld.2.2.2.2.2.1, cell_later hb hHeld.2.2.2.2.2.2.1, cell_later hb hHeld.2.2.2.2.2.2.2.1, cell_later hb hHeld.2.2.2.2.2.2.2.2.1, cell_later hb hHeld.2.2.2.2.2.2.2.2.2.1, cell_later hb hHeld.2.2.2.2.2.2.2.2.2.2.1, cell_later hb hHeld.2.2.2.2.2.2.2.2.2.2.2.1, cell_later hb hHeld.2.2.2.2.2.2.2.2.2.2.2.2.1, cell_later hb hHeld.2.2.2.2.2.2.2.2.2.2.2.2.2.1, cell_later hb hHeld.2.2.2.2.2.2.2.2.2.2.2.2.2.2.1, cell_later hb hHeld.2.2.2.2.2.2.2.2.2.2.2.2.2.2.2.1, cell_later hb hHeld.2.2.2.2.2.2.2.2.2.2.2.2.2.2.2.2.1, cell_later hb hHeld.2.2.2.2.2.2.2.2.2.2.2.2.2.2.2.2.2.1, hHeld.2.2.2.2.2.2.2.2.2.2.2.2.2.2.2.2.2.2.trans (hb.mono hHeld.2.2.2.2.2.2.2.2.2.2.2.2.2.2.2.2.2.2.size)⟩
      clear hK K hHeld hb
      have hHeld := hHeld2
      clear hHeld2
      try simp only [Act.put, List.setIfInBounds_toArray, List.set_cons_zero, List.set_cons_succ]
      refine wpAnyH_take (i := 4) (oi := ⟨some 43, _, _, _, _, _⟩) (v := ?_) rfl (by kernel_rfl) (by kernel_rfl) (by kernel_rfl) (fun _ _ _ h => h) (Or.inl ⟨by rfl, ?_⟩) (by assumption) ?_
      rotate_left 1
      · intro w hSw; (try dsimp only at hSw); go_simp; try (with_reducible rfl)
      try simp only [Act.put, List.setIfInBounds_toArray, List.set_cons_zero, List.set_cons_succ]
      refine wpAnyH_done (by kernel_rfl) ?_ _
      try simp only [Act.put, List.setIfInBounds_toArray, List.set_cons_zero, List.set_cons_succ]
      have H9 := Lib.hid hHeld.2.2.2.2.2.2.2.2.2.2.2.2.2.2.2.2.2.2
      clear hHeld
      replace EZ := Lib.hid (bstep EZ.out H9.out)
      replace GX := Lib.hid (GX.out.up H9.out (Nat.le_refl _))
      clear o0 o1 o2 o3 o4 o5 o6 o7 o8 ol y0 y1 y2 y3 y4 y5 y6 y7 y8 yl A OX IX I2 I6
      go_wp2_with fail
      refine (te _ EZ.out).mono ?_
      rintro e w9 ⟨v3, rfl, O4, B⟩
      replace EZ := Lib.hid (bstep EZ.out B)
      replace GX := Lib.hid (GX.out.up B (Nat.le_refl _))
      have G4 := Lib.hid O4.read
      clear B O4
      go_wp2_with fail
      refine (qs _ _ _ GX.out G4.out).mono ?_
      rintro e w10 ⟨rfl, B⟩
      replace EZ := Lib.hid (bstep EZ.out B)
      clear B
      go_wp2_with fail
      go_ret
      exact ⟨rfl, bstep D.out EZ.out⟩
end Go.Proofs.Ytfcjhojkfchccaa
