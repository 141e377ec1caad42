/- Texts laid together. -/
import Derived.Test.YtfcjhojkfchccaaDoorC23
import Derived.Test.YtfcjhojkfchccaaDoorC24
import Derived.Test.YtfcjhojkfchccaaDoorC21
import Derived.Test.YtfcjhojkfchccaaDoorC13
import Derived.Deep.RegionWith
/- The model's PathOf. -/
namespace Go.Proofs.YtfcjhojkfchccaaDoor
open Go.RowKit
set_option linter.unusedVariables false

theorem spath_bad {n : Int} {X : En} {E : List En} (h : ¬ ((1 ≤ n ∧ n ≤ 5) ∧ answB X E = true ∧ (E.length : Int) < n)) : pathR n X E = -1 := if_neg h
theorem spath_good {n : Int} {X : En} {E : List En} {t : Bool} (h : (1 ≤ n ∧ n ≤ 5) ∧ answB X E = true ∧ (E.length : Int) < n) (ht : E.all (likeB X) = t) : pathR n X E = if t = true ∧ fastR n ≤ (E.length : Int) + 1 then 1 else if slowR n ≤ (E.length : Int) + 1 then 2 else 0 := by
  unfold pathR fastR slowR
  rw [if_pos h, if_pos h.1, if_pos h.1, ht]
theorem all_take {X : En} {E : List En} {k : Nat} (hk : k < E.length) : (E.take (k + 1)).all (likeB X) = ((E.take k).all (likeB X) && likeB X (E.getD k en0)) := by
  rw [take_nextE hk, List.all_append]; simp
set_option maxRecDepth 100000 in
set_option maxHeartbeats 8000000 in
theorem spath_any (n : Int) (X : En) (u v : Value) (E : List En) (w : World) (hu : Ids w u X.deps) (h : Ens w v E) :
    Calls Tryd.prog 17 #[.int .i64 n, env X u, v] w fun e w' => e = .returned (.int .i64 (pathR n X E)) ∧ Below w.heap.size w w' := by
  obtain ⟨ua, un, uc, rfl⟩ : ∃ ua un uc, u = .slice ua un uc := by obtain ⟨a, c, e, _⟩ := hu; exact ⟨a, _, c, e⟩
  have sa := fun W (hb : Below w.heap.size w W) => sans_any X (.slice ua un uc) v E W (hu.up hb (Nat.le_refl _)) (h.up hb (Nat.le_refl _))
  have hIu := fun W (hb : Below w.heap.size w W) => hu.up hb (Nat.le_refl _)
  obtain ⟨a0, ca0, rfl, h1, h2, h3⟩ := h
  obtain ⟨l, hl⟩ : ∃ l, Hid (E.length = l) := ⟨_, Lib.hid rfl⟩
  simp only [hl.out] at sa h1 h2 ⊢
  replace h3 := Lib.hid h3
  unfold env at sa
  unfold env
  have A := Lib.hid (heap_alloc_new w (.cells #[.int .i64 X.id.1, .int .i64 X.id.2, .int .i64 X.bal, .int .i64 X.st, .int .i64 X.k, .int .i64 X.key, .int .i64 X.v, .int .i64 X.seq, .slice ua un uc] 29))
  have D := Lib.hid ((Below.refl w.heap.size w).alloc (Nat.le_refl _) (.cells #[.int .i64 X.id.1, .int .i64 X.id.2, .int .i64 X.bal, .int .i64 X.st, .int .i64 X.k, .int .i64 X.key, .int .i64 X.v, .int .i64 X.seq, .slice ua un uc] 29))
  clear hu
  have iv := fun W => in_any n 1 5 W
  simp only [inB_five] at iv
  go_enter Tryd.func17, Tryd.ntmps17
  go_upto_region 1 with fail
  generalize w.alloc (.cells #[.int .i64 X.id.1, .int .i64 X.id.2, .int .i64 X.bal, .int .i64 X.st, .int .i64 X.k, .int .i64 X.key, .int .i64 X.v, .int .i64 X.seq, .slice ua un uc] 29) = w1 at A D ⊢
  obtain ⟨⟨y0, y1, y2, y3, y4, y5, y6, y7, y8⟩, _, yl⟩ := nine_all A.out
  by_cases hn : 1 ≤ n ∧ n ≤ 5
  · simp only [decide_eq_true hn] at iv
    obtain ⟨q, hq⟩ : ∃ q, Hid (answB X E = q) := ⟨_, Lib.hid rfl⟩
    simp only [hq.out] at sa
    go_wp2_with fail
    refine (iv _).mono ?_
    rintro e w' ⟨rfl, rfl⟩
    go_wp2_with fail
    refine (sa _ D.out).mono ?_
    rintro e w' ⟨rfl, B⟩
    replace A := Lib.hid (bblk B (lt_of_heap A.out) A.out)
    replace D := Lib.hid (bstep D.out B)
    clear B y0 y1 y2 y3 y4 y5 y6 y7 y8 yl sa
    cases q
    · have hR := Lib.hid (spath_bad (n := n) (X := X) (E := E) (fun g => by have := g.2.1; rw [hq.out] at this; cases this))
      go_wp2_with fail
      go_ret
      exact ⟨by rw [hR.out]; rfl, D.out⟩
    · by_cases hmn : (l : Int) < n
      · obtain ⟨t, ht⟩ : ∃ t, Hid (E.all (likeB X) = t) := ⟨_, Lib.hid rfl⟩
        have hR := spath_good (n := n) (X := X) (E := E) (t := t) ⟨hn, hq.out, by rw [hl.out]; exact hmn⟩ ht.out
        have fs := fun W => sfast_any n W
        have ss := fun W => sslow_any n W
        obtain ⟨f, hf⟩ : ∃ f, Hid (fastR n = f) := ⟨_, Lib.hid rfl⟩
        obtain ⟨g, hg⟩ : ∃ f, Hid (slowR n = f) := ⟨_, Lib.hid rfl⟩
        rw [hf.out, hg.out, hl.out] at hR
        simp only [hf.out] at fs
        simp only [hg.out] at ss
        replace hR := Lib.hid hR
        have hl5 : l < 5 := by rw [← hl.out]; exact (answ_of hq.out).2.2.2
        go_upto_region 5 with fail
        generalize hw1 : w' = w1 at A D ⊢
        go_loopw [7, 8] (fun s i wr => ∃ (k : Nat) (t : Bool), k ≤ l ∧ i = .int .i64 k ∧ s = .bool t ∧ Hid ((E.take k).all (likeB X) = t) ∧ Hid (Below w1.heap.size w1 wr)) (fun _ i _ => l - (intOf i).toNat)
        case atStart => exact ⟨0, true, Nat.zero_le _, rfl, rfl, Lib.hid rfl, Lib.hid (Below.refl _ _)⟩
        case round =>
          obtain ⟨k, t2, hk, rfl, rfl, ht2, hnx⟩ := hrel
          by_cases hlt : k < l
          · have hkE : k < E.length := by rw [hl.out]; exact hlt
            obtain ⟨b, off, U, ha, hE⟩ := h3.out.resolve_left (by have := hl.out; omega)
            subst ha
            have hA := (hE.up D.out (Nat.le_refl _)).up hnx.out (Nat.le_refl _)
            have hbl := hA.lt
            have hP := hA.at_ k hkE
            obtain ⟨ya, yn, yc, hy⟩ : ∃ ua un uc, U k = .slice ua un uc := by obtain ⟨a, c, e, _⟩ := hP.ids; exact ⟨a, _, c, e⟩
            obtain ⟨Y, hY⟩ : ∃ Y, Hid (E.getD k en0 = Y) := ⟨_, Lib.hid rfl⟩
            have hIy := ((hE.at_ k hkE)).ids
            rw [hy, hY.out] at hP hIy
            have al := fun W (hb : Below w.heap.size w W) => sali_any X Y (.slice ua un uc) (.slice ya yn yc) W (hIu W hb) (hIy.up hb (Nat.le_refl _))
            unfold env at al
            have hnt := Lib.hid (all_take (X := X) (E := E) hkE)
            obtain ⟨s, hs⟩ : ∃ s, Hid (likeB X Y = s) := ⟨_, Lib.hid rfl⟩
            simp only [hs.out] at al
            have A2 := bblk hnx.out (lt_of_heap A.out) A.out
            obtain ⟨⟨y0, y1, y2, y3, y4, y5, y6, y7, y8⟩, _, yl⟩ := nine_all A2
            have q0 := hP.c0
            have q1 := hP.c1
            have q2 := hP.c2
            have q3 := hP.c3
            have q4 := hP.c4
            have q5 := hP.c5
            have q6 := hP.c6
            have q7 := hP.c7
            have q8 := hP.c8
            clear hA hE hP hy hIy A2 hR iv fs ss
            go_upto_region 7 with fail
            cases t2
            · refine wp_region_held_drew (S := fun w' => w'.cell? ⟨w.heap.size, 0, none⟩ = some (.int .i64 X.id.1) ∧ w'.cell? ⟨w.heap.size, 1, none⟩ = some (.int .i64 X.id.2) ∧ w'.cell? ⟨w.heap.size, 2, none⟩ = some (.int .i64 X.bal) ∧ w'.cell? ⟨w.heap.size, 3, none⟩ = some (.int .i64 X.st) ∧ w'.cell? ⟨w.heap.size, 4, none⟩ = some (.int .i64 X.k) ∧ w'.cell? ⟨w.heap.size, 5, none⟩ = some (.int .i64 X.key) ∧ w'.cell? ⟨w.heap.size, 6, none⟩ = some (.int .i64 X.v) ∧ w'.cell? ⟨w.heap.size, 7, none⟩ = some (.int .i64 X.seq) ∧ w'.cell? ⟨w.heap.size, 8, none⟩ = some (.slice ua un uc) ∧ w'.cell? ⟨b, off + k * 9, none⟩ = some (.int .i64 Y.id.1) ∧ w'.cell? ⟨b, off + k * 9 + 1, none⟩ = some (.int .i64 Y.id.2) ∧ w'.cell? ⟨b, off + k * 9 + 2, none⟩ = some (.int .i64 Y.bal) ∧ w'.cell? ⟨b, off + k * 9 + 3, none⟩ = some (.int .i64 Y.st) ∧ w'.cell? ⟨b, off + k * 9 + 4, none⟩ = some (.int .i64 Y.k) ∧ w'.cell? ⟨b, off + k * 9 + 5, none⟩ = some (.int .i64 Y.key) ∧ w'.cell? ⟨b, off + k * 9 + 6, none⟩ = some (.int .i64 Y.v) ∧ w'.cell? ⟨b, off + k * 9 + 7, none⟩ = some (.int .i64 Y.seq) ∧ w'.cell? ⟨b, off + k * 9 + 8, none⟩ = some (.slice ya yn yc) ∧ Below w1.heap.size w1 w') (by kernel_rfl) ⟨y0, y1, y2, y3, y4, y5, y6, y7, y8, q0, q1, q2, q3, q4, q5, q6, q7, q8, hnx.out.drew⟩ (fun hHeld => ?_)
              refine wpAnyH_take (i := 0) (oi := ⟨some 30, _, _, _, _, _⟩) (v := ?_) rfl (by kernel_rfl) (by kernel_rfl) (by kernel_rfl) (fun _ _ _ h => h) (Or.inl ⟨by rfl, ?_⟩) (by assumption) ?_
              rotate_left 1
              · intro w hSw; (try dsimp only at hSw); go_simp; try (with_reducible rfl)
              try simp only [Act.put, List.setIfInBounds_toArray, List.set_cons_zero, List.set_cons_succ]
              refine wpAnyH_take (i := 1) (oi := ⟨some 31, _, _, _, _, _⟩) (v := ?_) rfl (by kernel_rfl) (by kernel_rfl) (by kernel_rfl) (fun _ _ _ h => h) (Or.inl ⟨by rfl, ?_⟩) (by assumption) ?_
              rotate_left 1
              · intro w hSw; (try dsimp only at hSw); go_simp; try (with_reducible rfl)
              try simp only [Act.put, List.setIfInBounds_toArray, List.set_cons_zero, List.set_cons_succ]
              refine wpAnyH_take (i := 2) (oi := ⟨some 32, _, _, _, _, _⟩) (v := undef) rfl (by kernel_rfl) (by kernel_rfl) (by kernel_rfl) (fun _ _ _ h => h) (Or.inr ⟨by rfl, rfl⟩) (by assumption) ?_
              try simp only [Act.put, List.setIfInBounds_toArray, List.set_cons_zero, List.set_cons_succ]
              refine wpAnyH_take (i := 3) (oi := ⟨some 33, _, _, _, _, _⟩) (v := undef) rfl (by kernel_rfl) (by kernel_rfl) (by kernel_rfl) (fun _ _ _ h => h) (Or.inr ⟨by rfl, rfl⟩) (by assumption) ?_
              try simp only [Act.put, List.setIfInBounds_toArray, List.set_cons_zero, List.set_cons_succ]
              refine wpAnyH_take (i := 4) (oi := ⟨some 34, _, _, _, _, _⟩) (v := undef) rfl (by kernel_rfl) (by kernel_rfl) (by kernel_rfl) (fun _ _ _ h => h) (Or.inr ⟨by rfl, rfl⟩) (by assumption) ?_
              try simp only [Act.put, List.setIfInBounds_toArray, List.set_cons_zero, List.set_cons_succ]
              refine wpAnyH_take (i := 5) (oi := ⟨some 35, _, _, _, _, _⟩) (v := undef) rfl (by kernel_rfl) (by kernel_rfl) (by kernel_rfl) (fun _ _ _ h => h) (Or.inr ⟨by rfl, rfl⟩) (by assumption) ?_
              try simp only [Act.put, List.setIfInBounds_toArray, List.set_cons_zero, List.set_cons_succ]
              refine wpAnyH_take (i := 6) (oi := ⟨some 36, _, _, _, _, _⟩) (v := undef) rfl (by kernel_rfl) (by kernel_rfl) (by kernel_rfl) (fun _ _ _ h => h) (Or.inr ⟨by rfl, rfl⟩) (by assumption) ?_
              try simp only [Act.put, List.setIfInBounds_toArray, List.set_cons_zero, List.set_cons_succ]
              refine wpAnyH_take (i := 7) (oi := ⟨some 37, _, _, _, _, _⟩) (v := undef) rfl (by kernel_rfl) (by kernel_rfl) (by kernel_rfl) (fun _ _ _ h => h) (Or.inr ⟨by rfl, rfl⟩) (by assumption) ?_
              try simp only [Act.put, List.setIfInBounds_toArray, List.set_cons_zero, List.set_cons_succ]
              refine wpAnyH_take (i := 8) (oi := ⟨some 38, _, _, _, _, _⟩) (v := ?_) rfl (by kernel_rfl) (by kernel_rfl) (by kernel_rfl) (fun _ _ _ h => h) (Or.inl ⟨by rfl, ?_⟩) (by assumption) ?_
              rotate_left 1
              · intro w hSw; (try dsimp only at hSw); go_simp; try (with_reducible rfl)
              try simp only [Act.put, List.setIfInBounds_toArray, List.set_cons_zero, List.set_cons_succ]
              refine wpAnyH_take (i := 9) (oi := ⟨some 7, _, _, _, _, _⟩) (v := ?_) rfl (by kernel_rfl) (by kernel_rfl) (by kernel_rfl) (fun _ _ _ h => h) (Or.inl ⟨by rfl, ?_⟩) (by assumption) ?_
              rotate_left 1
              · intro w hSw; (try dsimp only at hSw); go_simp; try (with_reducible rfl)
              try simp only [Act.put, List.setIfInBounds_toArray, List.set_cons_zero, List.set_cons_succ]
              refine wpAnyH_done (by kernel_rfl) ?_ _
              try simp only [Act.put, List.setIfInBounds_toArray, List.set_cons_zero, List.set_cons_succ]
              have H5 := Lib.hid hHeld.2.2.2.2.2.2.2.2.2.2.2.2.2.2.2.2.2.2
              clear hHeld
              go_wp2_with fail
              go_roundw
              case rel => exact ⟨k + 1, _, by omega, by go_num, rfl, Lib.hid (by rw [hnt.out, ht2.out, hY.out]; rfl), H5⟩
              case measure => simp [intOf]; omega
            · refine wp_region_held_drew (S := fun w' => w'.cell? ⟨w.heap.size, 0, none⟩ = some (.int .i64 X.id.1) ∧ w'.cell? ⟨w.heap.size, 1, none⟩ = some (.int .i64 X.id.2) ∧ w'.cell? ⟨w.heap.size, 2, none⟩ = some (.int .i64 X.bal) ∧ w'.cell? ⟨w.heap.size, 3, none⟩ = some (.int .i64 X.st) ∧ w'.cell? ⟨w.heap.size, 4, none⟩ = some (.int .i64 X.k) ∧ w'.cell? ⟨w.heap.size, 5, none⟩ = some (.int .i64 X.key) ∧ w'.cell? ⟨w.heap.size, 6, none⟩ = some (.int .i64 X.v) ∧ w'.cell? ⟨w.heap.size, 7, none⟩ = some (.int .i64 X.seq) ∧ w'.cell? ⟨w.heap.size, 8, none⟩ = some (.slice ua un uc) ∧ w'.cell? ⟨b, off + k * 9, none⟩ = some (.int .i64 Y.id.1) ∧ w'.cell? ⟨b, off + k * 9 + 1, none⟩ = some (.int .i64 Y.id.2) ∧ w'.cell? ⟨b, off + k * 9 + 2, none⟩ = some (.int .i64 Y.bal) ∧ w'.cell? ⟨b, off + k * 9 + 3, none⟩ = some (.int .i64 Y.st) ∧ w'.cell? ⟨b, off + k * 9 + 4, none⟩ = some (.int .i64 Y.k) ∧ w'.cell? ⟨b, off + k * 9 + 5, none⟩ = some (.int .i64 Y.key) ∧ w'.cell? ⟨b, off + k * 9 + 6, none⟩ = some (.int .i64 Y.v) ∧ w'.cell? ⟨b, off + k * 9 + 7, none⟩ = some (.int .i64 Y.seq) ∧ w'.cell? ⟨b, off + k * 9 + 8, none⟩ = some (.slice ya yn yc) ∧ Below w1.heap.size w1 w') (by kernel_rfl) ⟨y0, y1, y2, y3, y4, y5, y6, y7, y8, q0, q1, q2, q3, q4, q5, q6, q7, q8, hnx.out.drew⟩ (fun hHeld => ?_)
              refine wpAnyH_take (i := 0) (oi := ⟨some 30, _, _, _, _, _⟩) (v := ?_) rfl (by kernel_rfl) (by kernel_rfl) (by kernel_rfl) (fun _ _ _ h => h) (Or.inl ⟨by rfl, ?_⟩) (by assumption) ?_
              rotate_left 1
              · intro w hSw; (try dsimp only at hSw); go_simp; try (with_reducible rfl)
              try simp only [Act.put, List.setIfInBounds_toArray, List.set_cons_zero, List.set_cons_succ]
              refine wpAnyH_take (i := 1) (oi := ⟨some 31, _, _, _, _, _⟩) (v := ?_) rfl (by kernel_rfl) (by kernel_rfl) (by kernel_rfl) (fun _ _ _ h => h) (Or.inl ⟨by rfl, ?_⟩) (by assumption) ?_
              rotate_left 1
              · intro w hSw; (try dsimp only at hSw); go_simp; try (with_reducible rfl)
              try simp only [Act.put, List.setIfInBounds_toArray, List.set_cons_zero, List.set_cons_succ]
              refine wpAnyH_take (i := 2) (oi := ⟨some 32, _, _, _, _, _⟩) (v := ?_) rfl (by kernel_rfl) (by kernel_rfl) (by kernel_rfl) (fun _ _ _ h => h) (Or.inl ⟨by rfl, ?_⟩) (by assumption) ?_
              rotate_left 1
              · intro w hSw; (try dsimp only at hSw); go_simp; try (with_reducible rfl)
              try simp only [Act.put, List.setIfInBounds_toArray, List.set_cons_zero, List.set_cons_succ]
              refine wpAnyH_take (i := 3) (oi := ⟨some 33, _, _, _, _, _⟩) (v := ?_) rfl (by kernel_rfl) (by kernel_rfl) (by kernel_rfl) (fun _ _ _ h => h) (Or.inl ⟨by rfl, ?_⟩) (by assumption) ?_
              rotate_left 1
              · intro w hSw; (try dsimp only at hSw); go_simp; try (with_reducible rfl)
              try simp only [Act.put, List.setIfInBounds_toArray, List.set_cons_zero, List.set_cons_succ]
              refine wpAnyH_take (i := 4) (oi := ⟨some 34, _, _, _, _, _⟩) (v := ?_) rfl (by kernel_rfl) (by kernel_rfl) (by kernel_rfl) (fun _ _ _ h => h) (Or.inl ⟨by rfl, ?_⟩) (by assumption) ?_
              rotate_left 1
              · intro w hSw; (try dsimp only at hSw); go_simp; try (with_reducible rfl)
              try simp only [Act.put, List.setIfInBounds_toArray, List.set_cons_zero, List.set_cons_succ]
              refine wpAnyH_take (i := 5) (oi := ⟨some 35, _, _, _, _, _⟩) (v := ?_) rfl (by kernel_rfl) (by kernel_rfl) (by kernel_rfl) (fun _ _ _ h => h) (Or.inl ⟨by rfl, ?_⟩) (by assumption) ?_
              rotate_left 1
              · intro w hSw; (try dsimp only at hSw); go_simp; try (with_reducible rfl)
              try simp only [Act.put, List.setIfInBounds_toArray, List.set_cons_zero, List.set_cons_succ]
              refine wpAnyH_take (i := 6) (oi := ⟨some 36, _, _, _, _, _⟩) (v := ?_) rfl (by kernel_rfl) (by kernel_rfl) (by kernel_rfl) (fun _ _ _ h => h) (Or.inl ⟨by rfl, ?_⟩) (by assumption) ?_
              rotate_left 1
              · intro w hSw; (try dsimp only at hSw); go_simp; try (with_reducible rfl)
              try simp only [Act.put, List.setIfInBounds_toArray, List.set_cons_zero, List.set_cons_succ]
              refine wpAnyH_ready (rs := [7]) (by kernel_rfl) (by simp) ?_
              refine AllReadyH.cons (o := ⟨some 37, _, _, _, _, _⟩) rfl (fun K hK => ?_) AllReadyH.nil
              go_simp
              with_reducible refine (al _ (bstep D.out hHeld.2.2.2.2.2.2.2.2.2.2.2.2.2.2.2.2.2.2)).mono ?_
              rintro e wq ⟨rfl, hb⟩
              go_wp2_with fail
              refine hK.out _ _ ?_ (fun hHeld2 => ?_)
              · exact ⟨cell_later hb hHeld.1, cell_later hb hHeld.2.1, cell_later hb hHeld.2.2.1, cell_later hb hHeld.2.2.2.1, cell_later hb hHeld.2.2.2.2.1, cell_later hb hHeld.2.2.2.2.2.1, cell_later hb hHeld.2.2.2.2.2.2.1, cell_later hb hHeld.2.2.2.2.2.2.2.1, cell_later hb hHeld.2.2.2.2.2.2.2.2.1, cell_later hb hHeld.2.2.2.2.2.2.2.2.2.1, cell_later hb hHeld.2.2.2.2.2.2.2.2.2.2.1, cell_later hb hHeld.2.2.2.2.2.2.2.2.2.2.2.1, cell_later hb hHeld.2.2.2.2.2.2.2.2.2.2.2.2.1, cell_later hb hHeld.2.2.2.2.2.2.2.2.2.2.2.2.2.1, cell_later hb hHeld.2.2.2.2.2.2.2.2.2.2.2.2.2.2.1, cell_later hb hHeld.2.2.2.2.2.2.2.2.2.2.2.2.2.2.2.1, cell_later hb hHeld.2.2.2.2.2.2.2.2.2.2.2.2.2.2.2.2.1, cell_later hb hHeld.2.2.2.2.2.2.2.2.2.2.2.2.2.2.2.2.2.1, hHeld.2.2.2.2.2.2.2.2.2.2.2.2.2.2.2.2.2.2.trans (hb.mono hHeld.2.2.2.2.2.2.2.2.2.2.2.2.2.2.2.2.2.2.size)⟩
              clear hK K hHeld hb
              have hHeld := hHeld2
              clear hHeld2
              try simp only [Act.put, List.setIfInBounds_toArray, List.set_cons_zero, List.set_cons_succ]
              refine wpAnyH_take (i := 8) (oi := ⟨some 38, _, _, _, _, _⟩) (v := ?_) rfl (by kernel_rfl) (by kernel_rfl) (by kernel_rfl) (fun _ _ _ h => h) (Or.inl ⟨by rfl, ?_⟩) (by assumption) ?_
              rotate_left 1
              · intro w hSw; (try dsimp only at hSw); go_simp; try (with_reducible rfl)
              try simp only [Act.put, List.setIfInBounds_toArray, List.set_cons_zero, List.set_cons_succ]
              refine wpAnyH_take (i := 9) (oi := ⟨some 7, _, _, _, _, _⟩) (v := ?_) rfl (by kernel_rfl) (by kernel_rfl) (by kernel_rfl) (fun _ _ _ h => h) (Or.inl ⟨by rfl, ?_⟩) (by assumption) ?_
              rotate_left 1
              · intro w hSw; (try dsimp only at hSw); go_simp; try (with_reducible rfl)
              try simp only [Act.put, List.setIfInBounds_toArray, List.set_cons_zero, List.set_cons_succ]
              refine wpAnyH_done (by kernel_rfl) ?_ _
              try simp only [Act.put, List.setIfInBounds_toArray, List.set_cons_zero, List.set_cons_succ]
              have H5 := Lib.hid hHeld.2.2.2.2.2.2.2.2.2.2.2.2.2.2.2.2.2.2
              clear hHeld
              go_wp2_with fail
              go_roundw
              case rel => exact ⟨k + 1, _, by omega, by go_num, rfl, Lib.hid (by rw [hnt.out, ht2.out, hY.out, hs.out]; rfl), H5⟩
              case measure => simp [intOf]; omega
          · obtain rfl : k = l := by omega
            have htt : E.take k = E := List.take_of_length_le (by rw [hl.out]; exact Nat.le_refl _)
            obtain rfl : t2 = t := by rw [← ht2.out, htt]; exact ht.out
            have D2 := Lib.hid (bstep D.out hnx.out)
            clear htt ht ht2 h3 hIu hnx A
            by_cases hfm : f ≤ (k : Int) + 1
            · cases t2
              · have hR2 := Lib.hid (hR.out.trans (if_neg (fun g => by cases g.1)))
                clear hR
                go_wp2_with fail
                refine (ss _).mono ?_
                rintro e w' ⟨rfl, rfl⟩
                by_cases hgm : g ≤ (k : Int) + 1
                · have hR3 := Lib.hid (hR2.out.trans (if_pos hgm))
                  go_wp2_with fail
                  go_ret
                  exact ⟨by rw [hR3.out]; rfl, D2.out⟩
                · have hR3 := Lib.hid (hR2.out.trans (if_neg hgm))
                  go_wp2_with fail
                  go_ret
                  exact ⟨by rw [hR3.out]; rfl, D2.out⟩
              · have hR2 := Lib.hid (hR.out.trans (if_pos ⟨rfl, hfm⟩))
                clear hR
                go_wp2_with fail
                refine (fs _).mono ?_
                rintro e w' ⟨rfl, rfl⟩
                go_wp2_with fail
                go_ret
                exact ⟨by rw [hR2.out]; rfl, D2.out⟩
            · have hR2 := Lib.hid (hR.out.trans (if_neg (fun g => hfm g.2)))
              clear hR
              cases t2
              · go_wp2_with fail
                refine (ss _).mono ?_
                rintro e w' ⟨rfl, rfl⟩
                by_cases hgm : g ≤ (k : Int) + 1
                · have hR3 := Lib.hid (hR2.out.trans (if_pos hgm))
                  go_wp2_with fail
                  go_ret
                  exact ⟨by rw [hR3.out]; rfl, D2.out⟩
                · have hR3 := Lib.hid (hR2.out.trans (if_neg hgm))
                  go_wp2_with fail
                  go_ret
                  exact ⟨by rw [hR3.out]; rfl, D2.out⟩
              · go_wp2_with fail
                refine (fs _).mono ?_
                rintro e w' ⟨rfl, rfl⟩
                go_wp2_with fail
                refine (ss _).mono ?_
                rintro e w' ⟨rfl, rfl⟩
                by_cases hgm : g ≤ (k : Int) + 1
                · have hR3 := Lib.hid (hR2.out.trans (if_pos hgm))
                  go_wp2_with fail
                  go_ret
                  exact ⟨by rw [hR3.out]; rfl, D2.out⟩
                · have hR3 := Lib.hid (hR2.out.trans (if_neg hgm))
                  go_wp2_with fail
                  go_ret
                  exact ⟨by rw [hR3.out]; rfl, D2.out⟩
      · have hR := Lib.hid (spath_bad (n := n) (X := X) (E := E) (fun g => by have := g.2.2; rw [hl.out] at this; exact hmn this))
        go_wp2_with fail
        go_ret
        exact ⟨by rw [hR.out]; rfl, D.out⟩
  · simp only [decide_eq_false hn] at iv
    have hR := Lib.hid (spath_bad (n := n) (X := X) (E := E) (fun g => hn g.1))
    go_wp2_with fail
    refine (iv _).mono ?_
    rintro e w' ⟨rfl, rfl⟩
    go_wp2_with fail
    go_ret
    exact ⟨by rw [hR.out]; rfl, D.out⟩
end Go.Proofs.YtfcjhojkfchccaaDoor
