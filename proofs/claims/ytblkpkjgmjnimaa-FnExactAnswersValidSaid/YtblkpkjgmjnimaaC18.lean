/- Texts laid together. -/
import Derived.Test.YtblkpkjgmjnimaaC14
import Derived.Test.YtblkpkjgmjnimaaC09
import Derived.Test.YtblkpkjgmjnimaaC04
import Derived.BigQuiet
import Derived.IntWalk
/- The program's AnswersValid. -/
namespace Go.Proofs.Ytblkpkjgmjnimaa
open Go.RowKit
set_option linter.unusedVariables false

theorem cm_no {x y : En} (h : ¬ cmS x y) : (¬ x.k = y.k) ∨ (x.k = y.k ∧ ¬ x.key = y.key) ∨ (x.k = y.k ∧ x.key = y.key ∧ ¬ x.v = y.v) := by
  by_cases h1 : x.k = y.k
  · by_cases h2 : x.key = y.key
    · exact .inr (.inr ⟨h1, h2, fun h3 => h ⟨h1, h2, h3⟩⟩)
    · exact .inr (.inl ⟨h1, h2⟩)
  · exact .inl h1
set_option maxRecDepth 100000 in
set_option maxHeartbeats 8000000 in
theorem iava_at (b off ca : Nat) (n : Int) (a : Pid) (L : List An) (U : Nat → Value) (w : World) (hm : L.length ≤ 2000000) (h : AnsAt w b off L U) :
    Calls Try.prog 6 #[.int .i64 n, .agg #[.int .i64 a.1, .int .i64 a.2], .slice (some ⟨b, off, none⟩) L.length ca] w fun e w' => e = .returned (.bool (avB n a L)) ∧ Below w.heap.size w w' := by
  have A := Lib.hid (heap_alloc_new w (.cells #[.int .i64 a.1, .int .i64 a.2] 24))
  have D := Lib.hid ((Below.refl w.heap.size w).alloc (Nat.le_refl _) (.cells #[.int .i64 a.1, .int .i64 a.2] 24))
  obtain ⟨m, hm'⟩ : ∃ m, Hid (L.length = m) := ⟨_, Lib.hid rfl⟩
  have kn := fun W (hb : Below w.heap.size w W) => ikno_at b off ca L U W hm (h.up hb (Nat.le_refl _))
  rw [hm'.out] at hm kn ⊢
  obtain ⟨R, hR⟩ : ∃ q, Hid (avB n a L = q) := ⟨_, Lib.hid rfl⟩
  rw [hR.out]
  have h := Lib.hid h
  go_enter Try.func6, Try.ntmps6
  go_upto_region 1 with fail
  obtain ⟨ab, hab⟩ : ∃ c, Hid (w.heap.size = c) := ⟨_, Lib.hid rfl⟩
  rw [hab.out] at A ⊢
  generalize w.alloc (.cells #[.int .i64 a.1, .int .i64 a.2] 24) = w1 at A D ⊢
  go_wp2_with fail
  refine (ivrp_any n _).mono ?_
  rintro e w2 ⟨rfl, rfl⟩
  by_cases hn : 1 ≤ n ∧ n ≤ 5
  · rw [decide_eq_true hn]
    obtain ⟨z0, z1, _, _⟩ := blk2 A.out
    have zl := lt_of_heap A.out
    go_wp2_with fail
    refine (ivid_any a.1 a.2 _).mono ?_
    rintro e w3 ⟨rfl, B⟩
    replace A := Lib.hid (bblk B zl A.out)
    replace D := Lib.hid (bstep D.out B)
    clear B z0 z1 zl
    obtain ⟨p, hp⟩ : ∃ q, Hid (idB a.1 a.2 = q) := ⟨_, Lib.hid rfl⟩
    rw [hp.out]
    have hs3 := D.out.size
    have hn := Lib.hid hn
    cases p
    · have hR2 := Lib.hid (hR.out.symm.trans (avB_no (n := n) (a := a) (L := L) (fun g => by have := g.2.1; unfold okP at this; rw [hp.out] at this; cases this)))
      clear kn
      go_wp2_with fail
      go_ret
      exact ⟨by rw [hR2.out]; rfl, D.out⟩
    · go_wp2_with fail
      go_loopw [22] (fun i wr => ∃ k : Nat, k ≤ m ∧ i = .int .i64 k ∧ Hid (okI n a L k) ∧ Hid (Below w3.heap.size w3 wr)) (fun i _ => m - (intOf i).toNat)
      case atStart => exact ⟨0, Nat.zero_le _, rfl, Lib.hid (fun i hi => absurd hi (Nat.not_lt_zero _)), Lib.hid (Below.refl _ _)⟩
      case round =>
        obtain ⟨k, hk, rfl, hS, hnx⟩ := hrel
        by_cases hlt : k < m
        · clear kn
          have hkL : k < L.length := by rw [hm'.out]; exact hlt
          obtain ⟨x, hx⟩ : ∃ x, Hid (L.getD k an0 = x) := ⟨_, Lib.hid rfl⟩
          have hA := h.out.up (bstep D.out hnx.out) (Nat.le_refl _)
          obtain ⟨ua, un, uc, hU⟩ : ∃ ua un uc, U k = .slice ua un uc := by obtain ⟨c1, c2, e, _⟩ := (hA.at_ k hkL).ids; exact ⟨c1, _, c2, e⟩
          have hX := hA.at_ k hkL
          have qb := hA.lt
          rw [hx.out, hU] at hX
          obtain ⟨q0, q1, q2, q3, q4, q5, q6, q7, q8, q9, q10, hI⟩ := hX
          go_upto_region 6 with fail
          have BA := (Below.refl wr.heap.size wr).alloc (Nat.le_refl _) (.cells #[.int .i64 x.fr, .bool x.kn, .int .i64 x.en.id.1, .int .i64 x.en.id.2, .int .i64 x.en.bal, .int .i64 x.en.st, .int .i64 x.en.k, .int .i64 x.en.key, .int .i64 x.en.v, .int .i64 x.en.seq, .slice ua un uc] 48)
          have AX := Lib.hid (heap_alloc_new wr (.cells #[.int .i64 x.fr, .bool x.kn, .int .i64 x.en.id.1, .int .i64 x.en.id.2, .int .i64 x.en.bal, .int .i64 x.en.st, .int .i64 x.en.k, .int .i64 x.en.key, .int .i64 x.en.v, .int .i64 x.en.seq, .slice ua un uc] 48))
          have hA := hA.up BA (Nat.le_refl _)
          replace hnx := Lib.hid (bstep hnx.out BA)
          have A4 := Lib.hid (bblk hnx.out (lt_of_heap A.out) A.out)
          have av := fun W (hb : Below (wr.alloc (.cells #[.int .i64 x.fr, .bool x.kn, .int .i64 x.en.id.1, .int .i64 x.en.id.2, .int .i64 x.en.bal, .int .i64 x.en.st, .int .i64 x.en.k, .int .i64 x.en.key, .int .i64 x.en.v, .int .i64 x.en.seq, .slice ua un uc] 48)).heap.size (wr.alloc (.cells #[.int .i64 x.fr, .bool x.kn, .int .i64 x.en.id.1, .int .i64 x.en.id.2, .int .i64 x.en.bal, .int .i64 x.en.st, .int .i64 x.en.k, .int .i64 x.en.key, .int .i64 x.en.v, .int .i64 x.en.seq, .slice ua un uc] 48)) W) => ianv_any x (.slice ua un uc) n a W (hI.up (BA.trans (hb.mono BA.size)) (Nat.le_refl _))
          clear q0 q1 q2 q3 q4 q5 q6 q7 q8 q9 q10 BA
          obtain ⟨xb, hxb⟩ : ∃ c, Hid (wr.heap.size = c) := ⟨_, Lib.hid rfl⟩
          rw [hxb.out] at AX ⊢
          generalize wr.alloc (.cells #[.int .i64 x.fr, .bool x.kn, .int .i64 x.en.id.1, .int .i64 x.en.id.2, .int .i64 x.en.bal, .int .i64 x.en.st, .int .i64 x.en.k, .int .i64 x.en.key, .int .i64 x.en.v, .int .i64 x.en.seq, .slice ua un uc] 48) = w4 at AX hA hnx A4 av ⊢
          clear hxb hI hU qb
          obtain ⟨⟨y0, y1, y2, y3, y4, y5, y6, y7, y8, y9, y10⟩, yl⟩ := elev_all AX.out
          obtain ⟨z0, z1, _, _⟩ := blk2 A4.out
          have zl := lt_of_heap A4.out
          unfold anv at av
          obtain ⟨q, hq⟩ : ∃ q, Hid (anB n a x = q) := ⟨_, Lib.hid rfl⟩
          rw [hq.out] at av
          have qb := hA.lt
          clear AX A4
          cases q
          · clear hA hS
            refine wp_region_held_drew (S := fun w' => w'.cell? ⟨xb, 0, none⟩ = some (.int .i64 x.fr) ∧ w'.cell? ⟨xb, 1, none⟩ = some (.bool x.kn) ∧ w'.cell? ⟨xb, 2, none⟩ = some (.int .i64 x.en.id.1) ∧ w'.cell? ⟨xb, 3, none⟩ = some (.int .i64 x.en.id.2) ∧ w'.cell? ⟨xb, 4, none⟩ = some (.int .i64 x.en.bal) ∧ w'.cell? ⟨xb, 5, none⟩ = some (.int .i64 x.en.st) ∧ w'.cell? ⟨xb, 6, none⟩ = some (.int .i64 x.en.k) ∧ w'.cell? ⟨xb, 7, none⟩ = some (.int .i64 x.en.key) ∧ w'.cell? ⟨xb, 8, none⟩ = some (.int .i64 x.en.v) ∧ w'.cell? ⟨xb, 9, none⟩ = some (.int .i64 x.en.seq) ∧ w'.cell? ⟨xb, 10, none⟩ = some (.slice ua un uc) ∧ w'.cell? ⟨ab, 0, none⟩ = some (.int .i64 a.1) ∧ w'.cell? ⟨ab, 1, none⟩ = some (.int .i64 a.2) ∧ Below w4.heap.size w4 w') (by kernel_rfl) ⟨y0, y1, y2, y3, y4, y5, y6, y7, y8, y9, y10, z0, z1, Below.drew (Below.refl _ _)⟩ (fun hHeld => ?_)
            refine wpAnyH_take (i := 0) (oi := ⟨some 27, _, _, _, _, _⟩) (v := ?_) rfl (by kernel_rfl) (by kernel_rfl) (by kernel_rfl) (fun _ _ _ h => h) (Or.inl ⟨by rfl, ?_⟩) (by assumption) ?_
            rotate_left 1
            · intro w hSw; (try dsimp only at hSw); go_simp; try (with_reducible rfl)
            try simp only [Act.put, List.setIfInBounds_toArray, List.set_cons_zero, List.set_cons_succ]
            refine wpAnyH_take (i := 1) (oi := ⟨some 28, _, _, _, _, _⟩) (v := ?_) rfl (by kernel_rfl) (by kernel_rfl) (by kernel_rfl) (fun _ _ _ h => h) (Or.inl ⟨by rfl, ?_⟩) (by assumption) ?_
            rotate_left 1
            · intro w hSw; (try dsimp only at hSw); go_simp; try (with_reducible rfl)
            try simp only [Act.put, List.setIfInBounds_toArray, List.set_cons_zero, List.set_cons_succ]
            refine wpAnyH_take (i := 2) (oi := ⟨some 29, _, _, _, _, _⟩) (v := ?_) rfl (by kernel_rfl) (by kernel_rfl) (by kernel_rfl) (fun _ _ _ h => h) (Or.inl ⟨by rfl, ?_⟩) (by assumption) ?_
            rotate_left 1
            · intro w hSw; (try dsimp only at hSw); go_simp; try (with_reducible rfl)
            try simp only [Act.put, List.setIfInBounds_toArray, List.set_cons_zero, List.set_cons_succ]
            refine wpAnyH_ready (rs := [3]) (by kernel_rfl) (by simp) ?_
            refine AllReadyH.cons (o := ⟨some 30, _, _, _, _, _⟩) rfl (fun K hK => ?_) AllReadyH.nil
            go_simp
            with_reducible refine (av _ (hHeld.2.2.2.2.2.2.2.2.2.2.2.2.2)).mono ?_
            rintro e wq1 ⟨rfl, hb⟩
            go_wp2_with fail
            refine hK.out _ _ ?_ (fun hHeld2 => ?_)
            · exact ⟨cell_later hb hHeld.1, cell_later hb hHeld.2.1, cell_later hb hHeld.2.2.1, cell_later hb hHeld.2.2.2.1, cell_later hb hHeld.2.2.2.2.1, cell_later hb hHeld.2.2.2.2.2.1, cell_later hb hHeld.2.2.2.2.2.2.1, cell_later hb hHeld.2.2.2.2.2.2.2.1, cell_later hb hHeld.2.2.2.2.2.2.2.2.1, cell_later hb hHeld.2.2.2.2.2.2.2.2.2.1, cell_later hb hHeld.2.2.2.2.2.2.2.2.2.2.1, cell_later hb hHeld.2.2.2.2.2.2.2.2.2.2.2.1, cell_later hb hHeld.2.2.2.2.2.2.2.2.2.2.2.2.1, hHeld.2.2.2.2.2.2.2.2.2.2.2.2.2.trans (hb.mono hHeld.2.2.2.2.2.2.2.2.2.2.2.2.2.size)⟩
            clear hK K hHeld hb
            have hHeld := hHeld2
            clear hHeld2
            try simp only [Act.put, List.setIfInBounds_toArray, List.set_cons_zero, List.set_cons_succ]
            refine wpAnyH_take (i := 4) (oi := ⟨some 31, _, _, _, _, _⟩) (v := ?_) rfl (by kernel_rfl) (by kernel_rfl) (by kernel_rfl) (fun _ _ _ h => h) (Or.inl ⟨by rfl, ?_⟩) (by assumption) ?_
            rotate_left 1
            · intro w hSw; (try dsimp only at hSw); go_simp; try (with_reducible rfl)
            try simp only [Act.put, List.setIfInBounds_toArray, List.set_cons_zero, List.set_cons_succ]
            refine wpAnyH_take (i := 5) (oi := ⟨some 32, _, _, _, _, _⟩) (v := ?_) rfl (by kernel_rfl) (by kernel_rfl) (by kernel_rfl) (fun _ _ _ h => h) (Or.inl ⟨by rfl, ?_⟩) (by assumption) ?_
            rotate_left 1
            · intro w hSw; (try dsimp only at hSw); go_simp; try (with_reducible rfl)
            try simp only [Act.put, List.setIfInBounds_toArray, List.set_cons_zero, List.set_cons_succ]
            refine wpAnyH_take (i := 6) (oi := ⟨some 33, _, _, _, _, _⟩) (v := undef) rfl (by kernel_rfl) (by kernel_rfl) (by kernel_rfl) (fun _ _ _ h => h) (Or.inr ⟨by rfl, rfl⟩) (by assumption) ?_
            try simp only [Act.put, List.setIfInBounds_toArray, List.set_cons_zero, List.set_cons_succ]
            refine wpAnyH_take (i := 7) (oi := ⟨some 34, _, _, _, _, _⟩) (v := undef) rfl (by kernel_rfl) (by kernel_rfl) (by kernel_rfl) (fun _ _ _ h => h) (Or.inr ⟨by rfl, rfl⟩) (by assumption) ?_
            try simp only [Act.put, List.setIfInBounds_toArray, List.set_cons_zero, List.set_cons_succ]
            refine wpAnyH_take (i := 8) (oi := ⟨some 35, _, _, _, _, _⟩) (v := undef) rfl (by kernel_rfl) (by kernel_rfl) (by kernel_rfl) (fun _ _ _ h => h) (Or.inr ⟨by rfl, rfl⟩) (by assumption) ?_
            try simp only [Act.put, List.setIfInBounds_toArray, List.set_cons_zero, List.set_cons_succ]
            refine wpAnyH_take (i := 9) (oi := ⟨some 36, _, _, _, _, _⟩) (v := undef) rfl (by kernel_rfl) (by kernel_rfl) (by kernel_rfl) (fun _ _ _ h => h) (Or.inr ⟨by rfl, rfl⟩) (by assumption) ?_
            try simp only [Act.put, List.setIfInBounds_toArray, List.set_cons_zero, List.set_cons_succ]
            refine wpAnyH_take (i := 10) (oi := ⟨some 37, _, _, _, _, _⟩) (v := undef) rfl (by kernel_rfl) (by kernel_rfl) (by kernel_rfl) (fun _ _ _ h => h) (Or.inr ⟨by rfl, rfl⟩) (by assumption) ?_
            try simp only [Act.put, List.setIfInBounds_toArray, List.set_cons_zero, List.set_cons_succ]
            refine wpAnyH_take (i := 11) (oi := ⟨some 38, _, _, _, _, _⟩) (v := undef) rfl (by kernel_rfl) (by kernel_rfl) (by kernel_rfl) (fun _ _ _ h => h) (Or.inr ⟨by rfl, rfl⟩) (by assumption) ?_
            try simp only [Act.put, List.setIfInBounds_toArray, List.set_cons_zero, List.set_cons_succ]
            refine wpAnyH_take (i := 12) (oi := ⟨some 39, _, _, _, _, _⟩) (v := undef) rfl (by kernel_rfl) (by kernel_rfl) (by kernel_rfl) (fun _ _ _ h => h) (Or.inr ⟨by rfl, rfl⟩) (by assumption) ?_
            try simp only [Act.put, List.setIfInBounds_toArray, List.set_cons_zero, List.set_cons_succ]
            refine wpAnyH_take (i := 13) (oi := ⟨some 40, _, _, _, _, _⟩) (v := undef) rfl (by kernel_rfl) (by kernel_rfl) (by kernel_rfl) (fun _ _ _ h => h) (Or.inr ⟨by rfl, rfl⟩) (by assumption) ?_
            try simp only [Act.put, List.setIfInBounds_toArray, List.set_cons_zero, List.set_cons_succ]
            refine wpAnyH_take (i := 14) (oi := ⟨some 41, _, _, _, _, _⟩) (v := undef) rfl (by kernel_rfl) (by kernel_rfl) (by kernel_rfl) (fun _ _ _ h => h) (Or.inr ⟨by rfl, rfl⟩) (by assumption) ?_
            try simp only [Act.put, List.setIfInBounds_toArray, List.set_cons_zero, List.set_cons_succ]
            refine wpAnyH_take (i := 15) (oi := ⟨some 42, _, _, _, _, _⟩) (v := undef) rfl (by kernel_rfl) (by kernel_rfl) (by kernel_rfl) (fun _ _ _ h => h) (Or.inr ⟨by rfl, rfl⟩) (by assumption) ?_
            try simp only [Act.put, List.setIfInBounds_toArray, List.set_cons_zero, List.set_cons_succ]
            refine wpAnyH_take (i := 16) (oi := ⟨some 43, _, _, _, _, _⟩) (v := undef) rfl (by kernel_rfl) (by kernel_rfl) (by kernel_rfl) (fun _ _ _ h => h) (Or.inr ⟨by rfl, rfl⟩) (by assumption) ?_
            try simp only [Act.put, List.setIfInBounds_toArray, List.set_cons_zero, List.set_cons_succ]
            refine wpAnyH_take (i := 17) (oi := ⟨some 44, _, _, _, _, _⟩) (v := undef) rfl (by kernel_rfl) (by kernel_rfl) (by kernel_rfl) (fun _ _ _ h => h) (Or.inr ⟨by rfl, rfl⟩) (by assumption) ?_
            try simp only [Act.put, List.setIfInBounds_toArray, List.set_cons_zero, List.set_cons_succ]
            refine wpAnyH_take (i := 18) (oi := ⟨some 45, _, _, _, _, _⟩) (v := undef) rfl (by kernel_rfl) (by kernel_rfl) (by kernel_rfl) (fun _ _ _ h => h) (Or.inr ⟨by rfl, rfl⟩) (by assumption) ?_
            try simp only [Act.put, List.setIfInBounds_toArray, List.set_cons_zero, List.set_cons_succ]
            refine wpAnyH_take (i := 19) (oi := ⟨some 46, _, _, _, _, _⟩) (v := ?_) rfl (by kernel_rfl) (by kernel_rfl) (by kernel_rfl) (fun _ _ _ h => h) (Or.inl ⟨by rfl, ?_⟩) (by assumption) ?_
            rotate_left 1
            · intro w hSw; (try dsimp only at hSw); go_simp; try (with_reducible rfl)
            try simp only [Act.put, List.setIfInBounds_toArray, List.set_cons_zero, List.set_cons_succ]
            refine wpAnyH_done (by kernel_rfl) ?_ _
            try simp only [Act.put, List.setIfInBounds_toArray, List.set_cons_zero, List.set_cons_succ]
            have D2 := Lib.hid (D.out.trans ((hnx.out.trans ((hHeld.2.2.2.2.2.2.2.2.2.2.2.2.2).mono hnx.out.size)).mono hs3))
            have hR2 := Lib.hid (hR.out.symm.trans (avB_no (avP_bad1 hkL (by rw [hx.out]; exact hq.out))))
            clear hHeld
            go_wp2_with fail
            go_ret
            exact ⟨by rw [hR2.out]; rfl, D2.out⟩
          · rcases Nat.eq_zero_or_pos k with hk0 | hk0
            · subst hk0
              have hS1 := Lib.hid (okI_next hS.out (by rw [hx.out]; exact hq.out) (fun h => absurd h (Nat.lt_irrefl _)))
              clear hS hA
              refine wp_region_held_drew (S := fun w' => w'.cell? ⟨xb, 0, none⟩ = some (.int .i64 x.fr) ∧ w'.cell? ⟨xb, 1, none⟩ = some (.bool x.kn) ∧ w'.cell? ⟨xb, 2, none⟩ = some (.int .i64 x.en.id.1) ∧ w'.cell? ⟨xb, 3, none⟩ = some (.int .i64 x.en.id.2) ∧ w'.cell? ⟨xb, 4, none⟩ = some (.int .i64 x.en.bal) ∧ w'.cell? ⟨xb, 5, none⟩ = some (.int .i64 x.en.st) ∧ w'.cell? ⟨xb, 6, none⟩ = some (.int .i64 x.en.k) ∧ w'.cell? ⟨xb, 7, none⟩ = some (.int .i64 x.en.key) ∧ w'.cell? ⟨xb, 8, none⟩ = some (.int .i64 x.en.v) ∧ w'.cell? ⟨xb, 9, none⟩ = some (.int .i64 x.en.seq) ∧ w'.cell? ⟨xb, 10, none⟩ = some (.slice ua un uc) ∧ w'.cell? ⟨ab, 0, none⟩ = some (.int .i64 a.1) ∧ w'.cell? ⟨ab, 1, none⟩ = some (.int .i64 a.2) ∧ Below w4.heap.size w4 w') (by kernel_rfl) ⟨y0, y1, y2, y3, y4, y5, y6, y7, y8, y9, y10, z0, z1, Below.drew (Below.refl _ _)⟩ (fun hHeld => ?_)
              refine wpAnyH_take (i := 0) (oi := ⟨some 27, _, _, _, _, _⟩) (v := ?_) rfl (by kernel_rfl) (by kernel_rfl) (by kernel_rfl) (fun _ _ _ h => h) (Or.inl ⟨by rfl, ?_⟩) (by assumption) ?_
              rotate_left 1
              · intro w hSw; (try dsimp only at hSw); go_simp; try (with_reducible rfl)
              try simp only [Act.put, List.setIfInBounds_toArray, List.set_cons_zero, List.set_cons_succ]
              refine wpAnyH_take (i := 1) (oi := ⟨some 28, _, _, _, _, _⟩) (v := ?_) rfl (by kernel_rfl) (by kernel_rfl) (by kernel_rfl) (fun _ _ _ h => h) (Or.inl ⟨by rfl, ?_⟩) (by assumption) ?_
              rotate_left 1
              · intro w hSw; (try dsimp only at hSw); go_simp; try (with_reducible rfl)
              try simp only [Act.put, List.setIfInBounds_toArray, List.set_cons_zero, List.set_cons_succ]
              refine wpAnyH_take (i := 2) (oi := ⟨some 29, _, _, _, _, _⟩) (v := ?_) rfl (by kernel_rfl) (by kernel_rfl) (by kernel_rfl) (fun _ _ _ h => h) (Or.inl ⟨by rfl, ?_⟩) (by assumption) ?_
              rotate_left 1
              · intro w hSw; (try dsimp only at hSw); go_simp; try (with_reducible rfl)
              try simp only [Act.put, List.setIfInBounds_toArray, List.set_cons_zero, List.set_cons_succ]
              refine wpAnyH_ready (rs := [3]) (by kernel_rfl) (by simp) ?_
              refine AllReadyH.cons (o := ⟨some 30, _, _, _, _, _⟩) rfl (fun K hK => ?_) AllReadyH.nil
              go_simp
              with_reducible refine (av _ (hHeld.2.2.2.2.2.2.2.2.2.2.2.2.2)).mono ?_
              rintro e wq1 ⟨rfl, hb⟩
              go_wp2_with fail
              refine hK.out _ _ ?_ (fun hHeld2 => ?_)
              · exact ⟨cell_later hb hHeld.1, cell_later hb hHeld.2.1, cell_later hb hHeld.2.2.1, cell_later hb hHeld.2.2.2.1, cell_later hb hHeld.2.2.2.2.1, cell_later hb hHeld.2.2.2.2.2.1, cell_later hb hHeld.2.2.2.2.2.2.1, cell_later hb hHeld.2.2.2.2.2.2.2.1, cell_later hb hHeld.2.2.2.2.2.2.2.2.1, cell_later hb hHeld.2.2.2.2.2.2.2.2.2.1, cell_later hb hHeld.2.2.2.2.2.2.2.2.2.2.1, cell_later hb hHeld.2.2.2.2.2.2.2.2.2.2.2.1, cell_later hb hHeld.2.2.2.2.2.2.2.2.2.2.2.2.1, hHeld.2.2.2.2.2.2.2.2.2.2.2.2.2.trans (hb.mono hHeld.2.2.2.2.2.2.2.2.2.2.2.2.2.size)⟩
              clear hK K hHeld hb
              have hHeld := hHeld2
              clear hHeld2
              try simp only [Act.put, List.setIfInBounds_toArray, List.set_cons_zero, List.set_cons_succ]
              refine wpAnyH_take (i := 4) (oi := ⟨some 31, _, _, _, _, _⟩) (v := ?_) rfl (by kernel_rfl) (by kernel_rfl) (by kernel_rfl) (fun _ _ _ h => h) (Or.inl ⟨by rfl, ?_⟩) (by assumption) ?_
              rotate_left 1
              · intro w hSw; (try dsimp only at hSw); go_simp; try (with_reducible rfl)
              try simp only [Act.put, List.setIfInBounds_toArray, List.set_cons_zero, List.set_cons_succ]
              refine wpAnyH_take (i := 5) (oi := ⟨some 32, _, _, _, _, _⟩) (v := ?_) rfl (by kernel_rfl) (by kernel_rfl) (by kernel_rfl) (fun _ _ _ h => h) (Or.inl ⟨by rfl, ?_⟩) (by assumption) ?_
              rotate_left 1
              · intro w hSw; (try dsimp only at hSw); go_simp; try (with_reducible rfl)
              try simp only [Act.put, List.setIfInBounds_toArray, List.set_cons_zero, List.set_cons_succ]
              refine wpAnyH_take (i := 6) (oi := ⟨some 33, _, _, _, _, _⟩) (v := ?_) rfl (by kernel_rfl) (by kernel_rfl) (by kernel_rfl) (fun _ _ _ h => h) (Or.inl ⟨by rfl, ?_⟩) (by assumption) ?_
              rotate_left 1
              · intro w hSw; (try dsimp only at hSw); go_simp; try (with_reducible rfl)
              try simp only [Act.put, List.setIfInBounds_toArray, List.set_cons_zero, List.set_cons_succ]
              refine wpAnyH_take (i := 7) (oi := ⟨some 34, _, _, _, _, _⟩) (v := ?_) rfl (by kernel_rfl) (by kernel_rfl) (by kernel_rfl) (fun _ _ _ h => h) (Or.inl ⟨by rfl, ?_⟩) (by assumption) ?_
              rotate_left 1
              · intro w hSw; (try dsimp only at hSw); go_simp; try (with_reducible rfl)
              try simp only [Act.put, List.setIfInBounds_toArray, List.set_cons_zero, List.set_cons_succ]
              refine wpAnyH_take (i := 8) (oi := ⟨some 35, _, _, _, _, _⟩) (v := ?_) rfl (by kernel_rfl) (by kernel_rfl) (by kernel_rfl) (fun _ _ _ h => h) (Or.inl ⟨by rfl, ?_⟩) (by assumption) ?_
              rotate_left 1
              · intro w hSw; (try dsimp only at hSw); go_simp; try (with_reducible rfl)
              try simp only [Act.put, List.setIfInBounds_toArray, List.set_cons_zero, List.set_cons_succ]
              refine wpAnyH_take (i := 9) (oi := ⟨some 36, _, _, _, _, _⟩) (v := undef) rfl (by kernel_rfl) (by kernel_rfl) (by kernel_rfl) (fun _ _ _ h => h) (Or.inr ⟨by rfl, rfl⟩) (by assumption) ?_
              try simp only [Act.put, List.setIfInBounds_toArray, List.set_cons_zero, List.set_cons_succ]
              refine wpAnyH_take (i := 10) (oi := ⟨some 37, _, _, _, _, _⟩) (v := undef) rfl (by kernel_rfl) (by kernel_rfl) (by kernel_rfl) (fun _ _ _ h => h) (Or.inr ⟨by rfl, rfl⟩) (by assumption) ?_
              try simp only [Act.put, List.setIfInBounds_toArray, List.set_cons_zero, List.set_cons_succ]
              refine wpAnyH_take (i := 11) (oi := ⟨some 38, _, _, _, _, _⟩) (v := undef) rfl (by kernel_rfl) (by kernel_rfl) (by kernel_rfl) (fun _ _ _ h => h) (Or.inr ⟨by rfl, rfl⟩) (by assumption) ?_
              try simp only [Act.put, List.setIfInBounds_toArray, List.set_cons_zero, List.set_cons_succ]
              refine wpAnyH_take (i := 12) (oi := ⟨some 39, _, _, _, _, _⟩) (v := undef) rfl (by kernel_rfl) (by kernel_rfl) (by kernel_rfl) (fun _ _ _ h => h) (Or.inr ⟨by rfl, rfl⟩) (by assumption) ?_
              try simp only [Act.put, List.setIfInBounds_toArray, List.set_cons_zero, List.set_cons_succ]
              refine wpAnyH_take (i := 13) (oi := ⟨some 40, _, _, _, _, _⟩) (v := undef) rfl (by kernel_rfl) (by kernel_rfl) (by kernel_rfl) (fun _ _ _ h => h) (Or.inr ⟨by rfl, rfl⟩) (by assumption) ?_
              try simp only [Act.put, List.setIfInBounds_toArray, List.set_cons_zero, List.set_cons_succ]
              refine wpAnyH_take (i := 14) (oi := ⟨some 41, _, _, _, _, _⟩) (v := undef) rfl (by kernel_rfl) (by kernel_rfl) (by kernel_rfl) (fun _ _ _ h => h) (Or.inr ⟨by rfl, rfl⟩) (by assumption) ?_
              try simp only [Act.put, List.setIfInBounds_toArray, List.set_cons_zero, List.set_cons_succ]
              refine wpAnyH_take (i := 15) (oi := ⟨some 42, _, _, _, _, _⟩) (v := undef) rfl (by kernel_rfl) (by kernel_rfl) (by kernel_rfl) (fun _ _ _ h => h) (Or.inr ⟨by rfl, rfl⟩) (by assumption) ?_
              try simp only [Act.put, List.setIfInBounds_toArray, List.set_cons_zero, List.set_cons_succ]
              refine wpAnyH_take (i := 16) (oi := ⟨some 43, _, _, _, _, _⟩) (v := undef) rfl (by kernel_rfl) (by kernel_rfl) (by kernel_rfl) (fun _ _ _ h => h) (Or.inr ⟨by rfl, rfl⟩) (by assumption) ?_
              try simp only [Act.put, List.setIfInBounds_toArray, List.set_cons_zero, List.set_cons_succ]
              refine wpAnyH_take (i := 17) (oi := ⟨some 44, _, _, _, _, _⟩) (v := undef) rfl (by kernel_rfl) (by kernel_rfl) (by kernel_rfl) (fun _ _ _ h => h) (Or.inr ⟨by rfl, rfl⟩) (by assumption) ?_
              try simp only [Act.put, List.setIfInBounds_toArray, List.set_cons_zero, List.set_cons_succ]
              refine wpAnyH_take (i := 18) (oi := ⟨some 45, _, _, _, _, _⟩) (v := ?_) rfl (by kernel_rfl) (by kernel_rfl) (by kernel_rfl) (fun _ _ _ h => h) (Or.inl ⟨by rfl, ?_⟩) (by assumption) ?_
              rotate_left 1
              · intro w hSw; (try dsimp only at hSw); go_simp; try (with_reducible rfl)
              try simp only [Act.put, List.setIfInBounds_toArray, List.set_cons_zero, List.set_cons_succ]
              refine wpAnyH_take (i := 19) (oi := ⟨some 46, _, _, _, _, _⟩) (v := ?_) rfl (by kernel_rfl) (by kernel_rfl) (by kernel_rfl) (fun _ _ _ h => h) (Or.inl ⟨by rfl, ?_⟩) (by assumption) ?_
              rotate_left 1
              · intro w hSw; (try dsimp only at hSw); go_simp; try (with_reducible rfl)
              try simp only [Act.put, List.setIfInBounds_toArray, List.set_cons_zero, List.set_cons_succ]
              refine wpAnyH_done (by kernel_rfl) ?_ _
              try simp only [Act.put, List.setIfInBounds_toArray, List.set_cons_zero, List.set_cons_succ]
              have E2 := Lib.hid (hnx.out.trans ((hHeld.2.2.2.2.2.2.2.2.2.2.2.2.2).mono hnx.out.size))
              clear hHeld
              go_wp2_with fail
              go_roundw
              case rel => exact ⟨0 + 1, by omega, by go_num, hS1, E2⟩
              case measure => simp [intOf]; omega
            · obtain ⟨j, hj⟩ : ∃ j, Hid (k = j + 1) := ⟨k - 1, Lib.hid (by omega)⟩
              have hjL : j < L.length := by have := hj.out; omega
              have p0 := (hA.at_ j hjL).c0
              obtain ⟨fj, hfj⟩ : ∃ d, Hid ((L.getD j an0).fr = d) := ⟨_, Lib.hid rfl⟩
              rw [hfj.out] at p0
              have k0 : (0 : Int) ≤ (k : Int) - 1 := by omega
              have k1 : (k : Int) - 1 < (m : Int) := by omega
              have k2 : (1 : Int) ≤ (k : Int) := by omega
              have k3 : (0 : Int) < (k : Int) := by omega
              have kw : IntKind.i64.wrap ((k : Int) - 1) = (k : Int) - 1 := IntWalk.i64_in _ (by omega)
              have k6 : ((k : Int) - 1).toNat = j := by have := hj.out; omega
              clear hA
              by_cases hfr : x.fr ≤ fj
              · clear hS
                refine wp_region_held_drew (S := fun w' => w'.cell? ⟨xb, 0, none⟩ = some (.int .i64 x.fr) ∧ w'.cell? ⟨xb, 1, none⟩ = some (.bool x.kn) ∧ w'.cell? ⟨xb, 2, none⟩ = some (.int .i64 x.en.id.1) ∧ w'.cell? ⟨xb, 3, none⟩ = some (.int .i64 x.en.id.2) ∧ w'.cell? ⟨xb, 4, none⟩ = some (.int .i64 x.en.bal) ∧ w'.cell? ⟨xb, 5, none⟩ = some (.int .i64 x.en.st) ∧ w'.cell? ⟨xb, 6, none⟩ = some (.int .i64 x.en.k) ∧ w'.cell? ⟨xb, 7, none⟩ = some (.int .i64 x.en.key) ∧ w'.cell? ⟨xb, 8, none⟩ = some (.int .i64 x.en.v) ∧ w'.cell? ⟨xb, 9, none⟩ = some (.int .i64 x.en.seq) ∧ w'.cell? ⟨xb, 10, none⟩ = some (.slice ua un uc) ∧ w'.cell? ⟨ab, 0, none⟩ = some (.int .i64 a.1) ∧ w'.cell? ⟨ab, 1, none⟩ = some (.int .i64 a.2) ∧ w'.cell? ⟨b, off + j * 11, none⟩ = some (.int .i64 fj) ∧ Below w4.heap.size w4 w') (by kernel_rfl) ⟨y0, y1, y2, y3, y4, y5, y6, y7, y8, y9, y10, z0, z1, p0, Below.drew (Below.refl _ _)⟩ (fun hHeld => ?_)
                refine wpAnyH_take (i := 0) (oi := ⟨some 27, _, _, _, _, _⟩) (v := ?_) rfl (by kernel_rfl) (by kernel_rfl) (by kernel_rfl) (fun _ _ _ h => h) (Or.inl ⟨by rfl, ?_⟩) (by assumption) ?_
                rotate_left 1
                · intro w hSw; (try dsimp only at hSw); go_simp; try (with_reducible rfl)
                try simp only [Act.put, List.setIfInBounds_toArray, List.set_cons_zero, List.set_cons_succ]
                refine wpAnyH_take (i := 1) (oi := ⟨some 28, _, _, _, _, _⟩) (v := ?_) rfl (by kernel_rfl) (by kernel_rfl) (by kernel_rfl) (fun _ _ _ h => h) (Or.inl ⟨by rfl, ?_⟩) (by assumption) ?_
                rotate_left 1
                · intro w hSw; (try dsimp only at hSw); go_simp; try (with_reducible rfl)
                try simp only [Act.put, List.setIfInBounds_toArray, List.set_cons_zero, List.set_cons_succ]
                refine wpAnyH_take (i := 2) (oi := ⟨some 29, _, _, _, _, _⟩) (v := ?_) rfl (by kernel_rfl) (by kernel_rfl) (by kernel_rfl) (fun _ _ _ h => h) (Or.inl ⟨by rfl, ?_⟩) (by assumption) ?_
                rotate_left 1
                · intro w hSw; (try dsimp only at hSw); go_simp; try (with_reducible rfl)
                try simp only [Act.put, List.setIfInBounds_toArray, List.set_cons_zero, List.set_cons_succ]
                refine wpAnyH_ready (rs := [3]) (by kernel_rfl) (by simp) ?_
                refine AllReadyH.cons (o := ⟨some 30, _, _, _, _, _⟩) rfl (fun K hK => ?_) AllReadyH.nil
                go_simp
                with_reducible refine (av _ (hHeld.2.2.2.2.2.2.2.2.2.2.2.2.2.2)).mono ?_
                rintro e wq1 ⟨rfl, hb⟩
                go_wp2_with fail
                refine hK.out _ _ ?_ (fun hHeld2 => ?_)
                · exact ⟨cell_later hb hHeld.1, cell_later hb hHeld.2.1, cell_later hb hHeld.2.2.1, cell_later hb hHeld.2.2.2.1, cell_later hb hHeld.2.2.2.2.1, cell_later hb hHeld.2.2.2.2.2.1, cell_later hb hHeld.2.2.2.2.2.2.1, cell_later hb hHeld.2.2.2.2.2.2.2.1, cell_later hb hHeld.2.2.2.2.2.2.2.2.1, cell_later hb hHeld.2.2.2.2.2.2.2.2.2.1, cell_later hb hHeld.2.2.2.2.2.2.2.2.2.2.1, cell_later hb hHeld.2.2.2.2.2.2.2.2.2.2.2.1, cell_later hb hHeld.2.2.2.2.2.2.2.2.2.2.2.2.1, cell_later hb hHeld.2.2.2.2.2.2.2.2.2.2.2.2.2.1, hHeld.2.2.2.2.2.2.2.2.2.2.2.2.2.2.trans (hb.mono hHeld.2.2.2.2.2.2.2.2.2.2.2.2.2.2.size)⟩
                clear hK K hHeld hb
                have hHeld := hHeld2
                clear hHeld2
                try simp only [Act.put, List.setIfInBounds_toArray, List.set_cons_zero, List.set_cons_succ]
                refine wpAnyH_take (i := 4) (oi := ⟨some 31, _, _, _, _, _⟩) (v := ?_) rfl (by kernel_rfl) (by kernel_rfl) (by kernel_rfl) (fun _ _ _ h => h) (Or.inl ⟨by rfl, ?_⟩) (by assumption) ?_
                rotate_left 1
                · intro w hSw; (try dsimp only at hSw); go_simp; try (with_reducible rfl)
                try simp only [Act.put, List.setIfInBounds_toArray, List.set_cons_zero, List.set_cons_succ]
                refine wpAnyH_take (i := 5) (oi := ⟨some 32, _, _, _, _, _⟩) (v := ?_) rfl (by kernel_rfl) (by kernel_rfl) (by kernel_rfl) (fun _ _ _ h => h) (Or.inl ⟨by rfl, ?_⟩) (by assumption) ?_
                rotate_left 1
                · intro w hSw; (try dsimp only at hSw); go_simp; try (with_reducible rfl)
                try simp only [Act.put, List.setIfInBounds_toArray, List.set_cons_zero, List.set_cons_succ]
                refine wpAnyH_take (i := 6) (oi := ⟨some 33, _, _, _, _, _⟩) (v := ?_) rfl (by kernel_rfl) (by kernel_rfl) (by kernel_rfl) (fun _ _ _ h => h) (Or.inl ⟨by rfl, ?_⟩) (by assumption) ?_
                rotate_left 1
                · intro w hSw; (try dsimp only at hSw); go_simp; try (with_reducible rfl)
                try simp only [Act.put, List.setIfInBounds_toArray, List.set_cons_zero, List.set_cons_succ]
                refine wpAnyH_take (i := 7) (oi := ⟨some 34, _, _, _, _, _⟩) (v := ?_) rfl (by kernel_rfl) (by kernel_rfl) (by kernel_rfl) (fun _ _ _ h => h) (Or.inl ⟨by rfl, ?_⟩) (by assumption) ?_
                rotate_left 1
                · intro w hSw; (try dsimp only at hSw); go_simp; try (with_reducible rfl)
                try simp only [Act.put, List.setIfInBounds_toArray, List.set_cons_zero, List.set_cons_succ]
                refine wpAnyH_take (i := 8) (oi := ⟨some 35, _, _, _, _, _⟩) (v := ?_) rfl (by kernel_rfl) (by kernel_rfl) (by kernel_rfl) (fun _ _ _ h => h) (Or.inl ⟨by rfl, ?_⟩) (by assumption) ?_
                rotate_left 1
                · intro w hSw; (try dsimp only at hSw); go_simp; try (with_reducible rfl)
                try simp only [Act.put, List.setIfInBounds_toArray, List.set_cons_zero, List.set_cons_succ]
                refine wpAnyH_take (i := 9) (oi := ⟨some 36, _, _, _, _, _⟩) (v := ?_) rfl (by kernel_rfl) (by kernel_rfl) (by kernel_rfl) (fun _ _ _ h => h) (Or.inl ⟨by rfl, ?_⟩) (by assumption) ?_
                rotate_left 1
                · intro w hSw; (try dsimp only at hSw); go_simp; try (with_reducible rfl)
                try simp only [Act.put, List.setIfInBounds_toArray, List.set_cons_zero, List.set_cons_succ]
                refine wpAnyH_take (i := 10) (oi := ⟨some 37, _, _, _, _, _⟩) (v := ?_) rfl (by kernel_rfl) (by kernel_rfl) (by kernel_rfl) (fun _ _ _ h => h) (Or.inl ⟨by rfl, ?_⟩) (by assumption) ?_
                rotate_left 1
                · intro w hSw; (try dsimp only at hSw); go_simp; try (with_reducible rfl)
                try simp only [Act.put, List.setIfInBounds_toArray, List.set_cons_zero, List.set_cons_succ]
                refine wpAnyH_take (i := 11) (oi := ⟨some 38, _, _, _, _, _⟩) (v := ?_) rfl (by kernel_rfl) (by kernel_rfl) (by kernel_rfl) (fun _ _ _ h => h) (Or.inl ⟨by rfl, ?_⟩) (by assumption) ?_
                rotate_left 1
                · intro w hSw; (try dsimp only at hSw); go_simp; try (with_reducible rfl)
                try simp only [Act.put, List.setIfInBounds_toArray, List.set_cons_zero, List.set_cons_succ]
                refine wpAnyH_take (i := 12) (oi := ⟨some 39, _, _, _, _, _⟩) (v := ?_) rfl (by kernel_rfl) (by kernel_rfl) (by kernel_rfl) (fun _ _ _ h => h) (Or.inl ⟨by rfl, ?_⟩) (by assumption) ?_
                rotate_left 1
                · intro w hSw; (try dsimp only at hSw); go_simp; try (with_reducible rfl)
                try simp only [Act.put, List.setIfInBounds_toArray, List.set_cons_zero, List.set_cons_succ]
                refine wpAnyH_take (i := 13) (oi := ⟨some 40, _, _, _, _, _⟩) (v := ?_) rfl (by kernel_rfl) (by kernel_rfl) (by kernel_rfl) (fun _ _ _ h => h) (Or.inl ⟨by rfl, ?_⟩) (by assumption) ?_
                rotate_left 1
                · intro w hSw; (try dsimp only at hSw); go_simp; try (with_reducible rfl)
                try simp only [Act.put, List.setIfInBounds_toArray, List.set_cons_zero, List.set_cons_succ]
                refine wpAnyH_take (i := 14) (oi := ⟨some 41, _, _, _, _, _⟩) (v := ?_) rfl (by kernel_rfl) (by kernel_rfl) (by kernel_rfl) (fun _ _ _ h => h) (Or.inl ⟨by rfl, ?_⟩) (by assumption) ?_
                rotate_left 1
                · intro w hSw; (try dsimp only at hSw); go_simp; try (with_reducible rfl)
                try simp only [Act.put, List.setIfInBounds_toArray, List.set_cons_zero, List.set_cons_succ]
                refine wpAnyH_take (i := 15) (oi := ⟨some 42, _, _, _, _, _⟩) (v := ?_) rfl (by kernel_rfl) (by kernel_rfl) (by kernel_rfl) (fun _ _ _ h => h) (Or.inl ⟨by rfl, ?_⟩) (by assumption) ?_
                rotate_left 1
                · intro w hSw; (try dsimp only at hSw); go_simp; try (with_reducible rfl)
                try simp only [Act.put, List.setIfInBounds_toArray, List.set_cons_zero, List.set_cons_succ]
                refine wpAnyH_take (i := 16) (oi := ⟨some 43, _, _, _, _, _⟩) (v := ?_) rfl (by kernel_rfl) (by kernel_rfl) (by kernel_rfl) (fun _ _ _ h => h) (Or.inl ⟨by rfl, ?_⟩) (by assumption) ?_
                rotate_left 1
                · intro w hSw; (try dsimp only at hSw); go_simp; try (with_reducible rfl)
                try simp only [Act.put, List.setIfInBounds_toArray, List.set_cons_zero, List.set_cons_succ]
                refine wpAnyH_take (i := 17) (oi := ⟨some 44, _, _, _, _, _⟩) (v := ?_) rfl (by kernel_rfl) (by kernel_rfl) (by kernel_rfl) (fun _ _ _ h => h) (Or.inl ⟨by rfl, ?_⟩) (by assumption) ?_
                rotate_left 1
                · intro w hSw; (try dsimp only at hSw); go_simp; try (with_reducible rfl)
                try simp only [Act.put, List.setIfInBounds_toArray, List.set_cons_zero, List.set_cons_succ]
                refine wpAnyH_take (i := 18) (oi := ⟨some 45, _, _, _, _, _⟩) (v := ?_) rfl (by kernel_rfl) (by kernel_rfl) (by kernel_rfl) (fun _ _ _ h => h) (Or.inl ⟨by rfl, ?_⟩) (by assumption) ?_
                rotate_left 1
                · intro w hSw; (try dsimp only at hSw); go_simp; try (with_reducible rfl)
                try simp only [Act.put, List.setIfInBounds_toArray, List.set_cons_zero, List.set_cons_succ]
                refine wpAnyH_take (i := 19) (oi := ⟨some 46, _, _, _, _, _⟩) (v := ?_) rfl (by kernel_rfl) (by kernel_rfl) (by kernel_rfl) (fun _ _ _ h => h) (Or.inl ⟨by rfl, ?_⟩) (by assumption) ?_
                rotate_left 1
                · intro w hSw; (try dsimp only at hSw); go_simp; try (with_reducible rfl)
                try simp only [Act.put, List.setIfInBounds_toArray, List.set_cons_zero, List.set_cons_succ]
                refine wpAnyH_done (by kernel_rfl) ?_ _
                try simp only [Act.put, List.setIfInBounds_toArray, List.set_cons_zero, List.set_cons_succ]
                have D2 := Lib.hid (D.out.trans ((hnx.out.trans ((hHeld.2.2.2.2.2.2.2.2.2.2.2.2.2.2).mono hnx.out.size)).mono hs3))
                have hR2 := Lib.hid (hR.out.symm.trans (avB_no (avP_bad2 hkL hk0 (by rw [hx.out, show k - 1 = j by have := hj.out; omega, hfj.out]; omega))))
                clear hHeld
                go_wp2_with fail
                go_ret
                exact ⟨by rw [hR2.out]; rfl, D2.out⟩
              · have hS1 := Lib.hid (okI_next hS.out (by rw [hx.out]; exact hq.out) (fun _ => by rw [hx.out, show k - 1 = j by have := hj.out; omega, hfj.out]; omega))
                clear hS
                refine wp_region_held_drew (S := fun w' => w'.cell? ⟨xb, 0, none⟩ = some (.int .i64 x.fr) ∧ w'.cell? ⟨xb, 1, none⟩ = some (.bool x.kn) ∧ w'.cell? ⟨xb, 2, none⟩ = some (.int .i64 x.en.id.1) ∧ w'.cell? ⟨xb, 3, none⟩ = some (.int .i64 x.en.id.2) ∧ w'.cell? ⟨xb, 4, none⟩ = some (.int .i64 x.en.bal) ∧ w'.cell? ⟨xb, 5, none⟩ = some (.int .i64 x.en.st) ∧ w'.cell? ⟨xb, 6, none⟩ = some (.int .i64 x.en.k) ∧ w'.cell? ⟨xb, 7, none⟩ = some (.int .i64 x.en.key) ∧ w'.cell? ⟨xb, 8, none⟩ = some (.int .i64 x.en.v) ∧ w'.cell? ⟨xb, 9, none⟩ = some (.int .i64 x.en.seq) ∧ w'.cell? ⟨xb, 10, none⟩ = some (.slice ua un uc) ∧ w'.cell? ⟨ab, 0, none⟩ = some (.int .i64 a.1) ∧ w'.cell? ⟨ab, 1, none⟩ = some (.int .i64 a.2) ∧ w'.cell? ⟨b, off + j * 11, none⟩ = some (.int .i64 fj) ∧ Below w4.heap.size w4 w') (by kernel_rfl) ⟨y0, y1, y2, y3, y4, y5, y6, y7, y8, y9, y10, z0, z1, p0, Below.drew (Below.refl _ _)⟩ (fun hHeld => ?_)
                refine wpAnyH_take (i := 0) (oi := ⟨some 27, _, _, _, _, _⟩) (v := ?_) rfl (by kernel_rfl) (by kernel_rfl) (by kernel_rfl) (fun _ _ _ h => h) (Or.inl ⟨by rfl, ?_⟩) (by assumption) ?_
                rotate_left 1
                · intro w hSw; (try dsimp only at hSw); go_simp; try (with_reducible rfl)
                try simp only [Act.put, List.setIfInBounds_toArray, List.set_cons_zero, List.set_cons_succ]
                refine wpAnyH_take (i := 1) (oi := ⟨some 28, _, _, _, _, _⟩) (v := ?_) rfl (by kernel_rfl) (by kernel_rfl) (by kernel_rfl) (fun _ _ _ h => h) (Or.inl ⟨by rfl, ?_⟩) (by assumption) ?_
                rotate_left 1
                · intro w hSw; (try dsimp only at hSw); go_simp; try (with_reducible rfl)
                try simp only [Act.put, List.setIfInBounds_toArray, List.set_cons_zero, List.set_cons_succ]
                refine wpAnyH_take (i := 2) (oi := ⟨some 29, _, _, _, _, _⟩) (v := ?_) rfl (by kernel_rfl) (by kernel_rfl) (by kernel_rfl) (fun _ _ _ h => h) (Or.inl ⟨by rfl, ?_⟩) (by assumption) ?_
                rotate_left 1
                · intro w hSw; (try dsimp only at hSw); go_simp; try (with_reducible rfl)
                try simp only [Act.put, List.setIfInBounds_toArray, List.set_cons_zero, List.set_cons_succ]
                refine wpAnyH_ready (rs := [3]) (by kernel_rfl) (by simp) ?_
                refine AllReadyH.cons (o := ⟨some 30, _, _, _, _, _⟩) rfl (fun K hK => ?_) AllReadyH.nil
                go_simp
                with_reducible refine (av _ (hHeld.2.2.2.2.2.2.2.2.2.2.2.2.2.2)).mono ?_
                rintro e wq1 ⟨rfl, hb⟩
                go_wp2_with fail
                refine hK.out _ _ ?_ (fun hHeld2 => ?_)
                · exact ⟨cell_later hb hHeld.1, cell_later hb hHeld.2.1, cell_later hb hHeld.2.2.1, cell_later hb hHeld.2.2.2.1, cell_later hb hHeld.2.2.2.2.1, cell_later hb hHeld.2.2.2.2.2.1, cell_later hb hHeld.2.2.2.2.2.2.1, cell_later hb hHeld.2.2.2.2.2.2.2.1, cell_later hb hHeld.2.2.2.2.2.2.2.2.1, cell_later hb hHeld.2.2.2.2.2.2.2.2.2.1, cell_later hb hHeld.2.2.2.2.2.2.2.2.2.2.1, cell_later hb hHeld.2.2.2.2.2.2.2.2.2.2.2.1, cell_later hb hHeld.2.2.2.2.2.2.2.2.2.2.2.2.1, cell_later hb hHeld.2.2.2.2.2.2.2.2.2.2.2.2.2.1, hHeld.2.2.2.2.2.2.2.2.2.2.2.2.2.2.trans (hb.mono hHeld.2.2.2.2.2.2.2.2.2.2.2.2.2.2.size)⟩
                clear hK K hHeld hb
                have hHeld := hHeld2
                clear hHeld2
                try simp only [Act.put, List.setIfInBounds_toArray, List.set_cons_zero, List.set_cons_succ]
                refine wpAnyH_take (i := 4) (oi := ⟨some 31, _, _, _, _, _⟩) (v := ?_) rfl (by kernel_rfl) (by kernel_rfl) (by kernel_rfl) (fun _ _ _ h => h) (Or.inl ⟨by rfl, ?_⟩) (by assumption) ?_
                rotate_left 1
                · intro w hSw; (try dsimp only at hSw); go_simp; try (with_reducible rfl)
                try simp only [Act.put, List.setIfInBounds_toArray, List.set_cons_zero, List.set_cons_succ]
                refine wpAnyH_take (i := 5) (oi := ⟨some 32, _, _, _, _, _⟩) (v := ?_) rfl (by kernel_rfl) (by kernel_rfl) (by kernel_rfl) (fun _ _ _ h => h) (Or.inl ⟨by rfl, ?_⟩) (by assumption) ?_
                rotate_left 1
                · intro w hSw; (try dsimp only at hSw); go_simp; try (with_reducible rfl)
                try simp only [Act.put, List.setIfInBounds_toArray, List.set_cons_zero, List.set_cons_succ]
                refine wpAnyH_take (i := 6) (oi := ⟨some 33, _, _, _, _, _⟩) (v := ?_) rfl (by kernel_rfl) (by kernel_rfl) (by kernel_rfl) (fun _ _ _ h => h) (Or.inl ⟨by rfl, ?_⟩) (by assumption) ?_
                rotate_left 1
                · intro w hSw; (try dsimp only at hSw); go_simp; try (with_reducible rfl)
                try simp only [Act.put, List.setIfInBounds_toArray, List.set_cons_zero, List.set_cons_succ]
                refine wpAnyH_take (i := 7) (oi := ⟨some 34, _, _, _, _, _⟩) (v := ?_) rfl (by kernel_rfl) (by kernel_rfl) (by kernel_rfl) (fun _ _ _ h => h) (Or.inl ⟨by rfl, ?_⟩) (by assumption) ?_
                rotate_left 1
                · intro w hSw; (try dsimp only at hSw); go_simp; try (with_reducible rfl)
                try simp only [Act.put, List.setIfInBounds_toArray, List.set_cons_zero, List.set_cons_succ]
                refine wpAnyH_take (i := 8) (oi := ⟨some 35, _, _, _, _, _⟩) (v := ?_) rfl (by kernel_rfl) (by kernel_rfl) (by kernel_rfl) (fun _ _ _ h => h) (Or.inl ⟨by rfl, ?_⟩) (by assumption) ?_
                rotate_left 1
                · intro w hSw; (try dsimp only at hSw); go_simp; try (with_reducible rfl)
                try simp only [Act.put, List.setIfInBounds_toArray, List.set_cons_zero, List.set_cons_succ]
                refine wpAnyH_take (i := 9) (oi := ⟨some 36, _, _, _, _, _⟩) (v := ?_) rfl (by kernel_rfl) (by kernel_rfl) (by kernel_rfl) (fun _ _ _ h => h) (Or.inl ⟨by rfl, ?_⟩) (by assumption) ?_
                rotate_left 1
                · intro w hSw; (try dsimp only at hSw); go_simp; try (with_reducible rfl)
                try simp only [Act.put, List.setIfInBounds_toArray, List.set_cons_zero, List.set_cons_succ]
                refine wpAnyH_take (i := 10) (oi := ⟨some 37, _, _, _, _, _⟩) (v := ?_) rfl (by kernel_rfl) (by kernel_rfl) (by kernel_rfl) (fun _ _ _ h => h) (Or.inl ⟨by rfl, ?_⟩) (by assumption) ?_
                rotate_left 1
                · intro w hSw; (try dsimp only at hSw); go_simp; try (with_reducible rfl)
                try simp only [Act.put, List.setIfInBounds_toArray, List.set_cons_zero, List.set_cons_succ]
                refine wpAnyH_take (i := 11) (oi := ⟨some 38, _, _, _, _, _⟩) (v := ?_) rfl (by kernel_rfl) (by kernel_rfl) (by kernel_rfl) (fun _ _ _ h => h) (Or.inl ⟨by rfl, ?_⟩) (by assumption) ?_
                rotate_left 1
                · intro w hSw; (try dsimp only at hSw); go_simp; try (with_reducible rfl)
                try simp only [Act.put, List.setIfInBounds_toArray, List.set_cons_zero, List.set_cons_succ]
                refine wpAnyH_take (i := 12) (oi := ⟨some 39, _, _, _, _, _⟩) (v := ?_) rfl (by kernel_rfl) (by kernel_rfl) (by kernel_rfl) (fun _ _ _ h => h) (Or.inl ⟨by rfl, ?_⟩) (by assumption) ?_
                rotate_left 1
                · intro w hSw; (try dsimp only at hSw); go_simp; try (with_reducible rfl)
                try simp only [Act.put, List.setIfInBounds_toArray, List.set_cons_zero, List.set_cons_succ]
                refine wpAnyH_take (i := 13) (oi := ⟨some 40, _, _, _, _, _⟩) (v := ?_) rfl (by kernel_rfl) (by kernel_rfl) (by kernel_rfl) (fun _ _ _ h => h) (Or.inl ⟨by rfl, ?_⟩) (by assumption) ?_
                rotate_left 1
                · intro w hSw; (try dsimp only at hSw); go_simp; try (with_reducible rfl)
                try simp only [Act.put, List.setIfInBounds_toArray, List.set_cons_zero, List.set_cons_succ]
                refine wpAnyH_take (i := 14) (oi := ⟨some 41, _, _, _, _, _⟩) (v := ?_) rfl (by kernel_rfl) (by kernel_rfl) (by kernel_rfl) (fun _ _ _ h => h) (Or.inl ⟨by rfl, ?_⟩) (by assumption) ?_
                rotate_left 1
                · intro w hSw; (try dsimp only at hSw); go_simp; try (with_reducible rfl)
                try simp only [Act.put, List.setIfInBounds_toArray, List.set_cons_zero, List.set_cons_succ]
                refine wpAnyH_take (i := 15) (oi := ⟨some 42, _, _, _, _, _⟩) (v := ?_) rfl (by kernel_rfl) (by kernel_rfl) (by kernel_rfl) (fun _ _ _ h => h) (Or.inl ⟨by rfl, ?_⟩) (by assumption) ?_
                rotate_left 1
                · intro w hSw; (try dsimp only at hSw); go_simp; try (with_reducible rfl)
                try simp only [Act.put, List.setIfInBounds_toArray, List.set_cons_zero, List.set_cons_succ]
                refine wpAnyH_take (i := 16) (oi := ⟨some 43, _, _, _, _, _⟩) (v := ?_) rfl (by kernel_rfl) (by kernel_rfl) (by kernel_rfl) (fun _ _ _ h => h) (Or.inl ⟨by rfl, ?_⟩) (by assumption) ?_
                rotate_left 1
                · intro w hSw; (try dsimp only at hSw); go_simp; try (with_reducible rfl)
                try simp only [Act.put, List.setIfInBounds_toArray, List.set_cons_zero, List.set_cons_succ]
                refine wpAnyH_take (i := 17) (oi := ⟨some 44, _, _, _, _, _⟩) (v := ?_) rfl (by kernel_rfl) (by kernel_rfl) (by kernel_rfl) (fun _ _ _ h => h) (Or.inl ⟨by rfl, ?_⟩) (by assumption) ?_
                rotate_left 1
                · intro w hSw; (try dsimp only at hSw); go_simp; try (with_reducible rfl)
                try simp only [Act.put, List.setIfInBounds_toArray, List.set_cons_zero, List.set_cons_succ]
                refine wpAnyH_take (i := 18) (oi := ⟨some 45, _, _, _, _, _⟩) (v := ?_) rfl (by kernel_rfl) (by kernel_rfl) (by kernel_rfl) (fun _ _ _ h => h) (Or.inl ⟨by rfl, ?_⟩) (by assumption) ?_
                rotate_left 1
                · intro w hSw; (try dsimp only at hSw); go_simp; try (with_reducible rfl)
                try simp only [Act.put, List.setIfInBounds_toArray, List.set_cons_zero, List.set_cons_succ]
                refine wpAnyH_take (i := 19) (oi := ⟨some 46, _, _, _, _, _⟩) (v := ?_) rfl (by kernel_rfl) (by kernel_rfl) (by kernel_rfl) (fun _ _ _ h => h) (Or.inl ⟨by rfl, ?_⟩) (by assumption) ?_
                rotate_left 1
                · intro w hSw; (try dsimp only at hSw); go_simp; try (with_reducible rfl)
                try simp only [Act.put, List.setIfInBounds_toArray, List.set_cons_zero, List.set_cons_succ]
                refine wpAnyH_done (by kernel_rfl) ?_ _
                try simp only [Act.put, List.setIfInBounds_toArray, List.set_cons_zero, List.set_cons_succ]
                have E2 := Lib.hid (hnx.out.trans ((hHeld.2.2.2.2.2.2.2.2.2.2.2.2.2.2).mono hnx.out.size))
                clear hHeld
                go_wp2_with fail
                go_roundw
                case rel => exact ⟨k + 1, by omega, by go_num, hS1, E2⟩
                case measure => simp [intOf]; omega
        · obtain rfl : k = m := by omega
          replace hS := Lib.hid hS.out
          have D4 := Lib.hid (bstep D.out hnx.out)
          go_wp2_with fail
          refine (kn _ D4.out).mono ?_
          rintro e w5 ⟨⟨v5, rfl, hE⟩, B⟩
          have D5 := Lib.hid (bstep D4.out B)
          clear B kn D4 hnx A h
          obtain ⟨K, hK⟩ : ∃ K, Hid (knownL L = K) := ⟨_, Lib.hid rfl⟩
          rw [hK.out] at hE
          obtain ⟨a5, c5, rfl, h1, h2, h3⟩ := hE
          obtain ⟨l, hl⟩ : ∃ l, Hid (K.length = l) := ⟨_, Lib.hid rfl⟩
          rw [hl.out] at h1 h2 h3 ⊢
          have fin : Hid ((∀ j, j < l → cmS (K.getD 0 en0) (K.getD j en0)) → R = true) := Lib.hid (fun g => hR.out.symm.trans (avB_yes ⟨hn.out, hp.out, by rw [hm'.out]; exact hS.out, cmI_known (fun j hj => by rw [hK.out] at hj ⊢; rw [hl.out] at hj; exact g j hj)⟩))
          have fno : Hid (∀ j, j < l → ¬ cmS (K.getD 0 en0) (K.getD j en0) → R = false) := Lib.hid (fun j hj g => hR.out.symm.trans (avB_no (known_bad (j := j) (by rw [hK.out, hl.out]; exact hj) (by rw [hK.out]; exact g))))
          clear hR hS hK hp
          rcases h3 with h3 | ⟨b5, off5, U5, rfl, h4⟩
          · subst h3
            have hRt := Lib.hid (fin.out (fun j hj => absurd hj (Nat.not_lt_zero _)))
            go_wp2_with fail
            refine wp_loop_rounds 1 ?_
            rw [rounds_succ]
            go_wp2_with fail
            go_ret
            exact ⟨by rw [hRt.out]; rfl, D5.out⟩
          · have h4 := Lib.hid h4
            go_wp2_with fail
            go_loopw [52] (fun i wr => ∃ t : Nat, t ≤ l ∧ i = .int .i64 t ∧ Hid (∀ j, j < t → cmS (K.getD 0 en0) (K.getD j en0)) ∧ Hid (Below w5.heap.size w5 wr)) (fun i _ => l - (intOf i).toNat)
            case atStart => exact ⟨0, Nat.zero_le _, rfl, Lib.hid (fun j hj => absurd hj (Nat.not_lt_zero _)), Lib.hid (Below.refl _ _)⟩
            case round =>
              obtain ⟨t, ht, rfl, hS, hnx⟩ := hrel
              by_cases hlt2 : t < l
              · have htK : t < K.length := by rw [hl.out]; exact hlt2
                have h0K : 0 < K.length := by omega
                obtain ⟨y, hy⟩ : ∃ y, Hid (K.getD t en0 = y) := ⟨_, Lib.hid rfl⟩
                obtain ⟨y', hy'⟩ : ∃ y, Hid (K.getD 0 en0 = y) := ⟨_, Lib.hid rfl⟩
                have hA := h4.out.up hnx.out (Nat.le_refl _)
                obtain ⟨ea, en, ec, hU⟩ : ∃ ua un uc, U5 t = .slice ua un uc := by obtain ⟨c1, c2, e, _⟩ := (hA.at_ t htK).ids; exact ⟨c1, _, c2, e⟩
                have hX := hA.at_ t htK
                have qb := hA.lt
                rw [hy.out, hU] at hX
                obtain ⟨q0, q1, q2, q3, q4, q5, q6, q7, q8, _⟩ := hX
                go_upto_region 13 with fail
                have BA := (Below.refl wr.heap.size wr).alloc (Nat.le_refl _) (.cells #[.int .i64 y.id.1, .int .i64 y.id.2, .int .i64 y.bal, .int .i64 y.st, .int .i64 y.k, .int .i64 y.key, .int .i64 y.v, .int .i64 y.seq, .slice ea en ec] 46)
                have AX := Lib.hid (heap_alloc_new wr (.cells #[.int .i64 y.id.1, .int .i64 y.id.2, .int .i64 y.bal, .int .i64 y.st, .int .i64 y.k, .int .i64 y.key, .int .i64 y.v, .int .i64 y.seq, .slice ea en ec] 46))
                have hA := hA.up BA (Nat.le_refl _)
                replace hnx := Lib.hid (bstep hnx.out BA)
                clear q0 q1 q2 q3 q4 q5 q6 q7 q8 BA
                obtain ⟨xb, hxb⟩ : ∃ c, Hid (wr.heap.size = c) := ⟨_, Lib.hid rfl⟩
                rw [hxb.out] at AX ⊢
                generalize wr.alloc (.cells #[.int .i64 y.id.1, .int .i64 y.id.2, .int .i64 y.bal, .int .i64 y.st, .int .i64 y.k, .int .i64 y.key, .int .i64 y.v, .int .i64 y.seq, .slice ea en ec] 46) = w6 at AX hA hnx ⊢
                clear hxb hU qb
                obtain ⟨⟨y0, y1, y2, y3, y4, y5, y6, y7, y8⟩, _, yl⟩ := nine_all AX.out
                have P := hA.at_ 0 h0K
                rw [hy'.out, Nat.zero_mul, Nat.add_zero] at P
                have g4 := P.c4
                have g5 := P.c5
                have g6 := P.c6
                have qb := hA.lt
                clear P hA AX
                by_cases hc : cmS y' y
                · have hS1 : Hid (∀ j, j < t + 1 → cmS (K.getD 0 en0) (K.getD j en0)) := Lib.hid (fun j hj => by
                    rcases Nat.lt_succ_iff_lt_or_eq.1 hj with g | g
                    · exact hS.out j g
                    · rw [g, hy.out, hy'.out]; exact hc)
                  obtain ⟨e1, e2, e3⟩ := hc
                  rw [e1] at g4
                  rw [e2] at g5
                  rw [e3] at g6
                  clear e1 e2 e3 hS
                  go_quiet (fail)
                  have hN2 := Lib.hid (bdrewN hnx.out nq)
                  clear hnx
                  go_wp2_with fail
                  go_roundw
                  case rel => exact ⟨t + 1, by omega, by go_num, hS1, hN2⟩
                  case measure => simp [intOf]; omega
                · have hRf := Lib.hid (fno.out t hlt2 (by rw [hy.out, hy'.out]; exact hc))
                  have hc2 : ¬ cmS y y' := fun g => hc ⟨g.1.symm, g.2.1.symm, g.2.2.symm⟩
                  clear hS hc
                  rcases cm_no hc2 with e1 | ⟨e1, e2⟩ | ⟨e1, e2, e3⟩
                  · clear hc2
                    go_quiet (fail)
                    have D9 := Lib.hid (bstep D5.out (bdrewN hnx.out nq))
                    go_wp2_with fail
                    go_ret
                    exact ⟨by rw [hRf.out]; rfl, D9.out⟩
                  · clear hc2
                    rw [e1] at y4
                    clear e1
                    go_quiet (fail)
                    have D9 := Lib.hid (bstep D5.out (bdrewN hnx.out nq))
                    go_wp2_with fail
                    go_ret
                    exact ⟨by rw [hRf.out]; rfl, D9.out⟩
                  · clear hc2
                    rw [e1] at y4
                    rw [e2] at y5
                    clear e1 e2
                    go_quiet (fail)
                    have D9 := Lib.hid (bstep D5.out (bdrewN hnx.out nq))
                    go_wp2_with fail
                    go_ret
                    exact ⟨by rw [hRf.out]; rfl, D9.out⟩
              · obtain rfl : t = l := by omega
                have hRt := Lib.hid (fin.out hS.out)
                have D9 := Lib.hid (bstep D5.out hnx.out)
                clear hnx
                go_wp2_with fail
                go_ret
                exact ⟨by rw [hRt.out]; rfl, D9.out⟩
  · rw [decide_eq_false hn]
    have hR2 := Lib.hid (hR.out.symm.trans (avB_no (n := n) (a := a) (L := L) (fun g => hn g.1)))
    clear kn
    go_wp2_with fail
    go_ret
    exact ⟨by rw [hR2.out]; rfl, D.out⟩
set_option maxRecDepth 100000 in
set_option maxHeartbeats 4000000 in
theorem iava_nil (a' : Option Addr) (ca : Nat) (n : Int) (a : Pid) (w : World) :
    Calls Try.prog 6 #[.int .i64 n, .agg #[.int .i64 a.1, .int .i64 a.2], .slice a' 0 ca] w fun e w' => e = .returned (.bool (avB n a [])) ∧ Below w.heap.size w w' := by
  have A := Lib.hid (heap_alloc_new w (.cells #[.int .i64 a.1, .int .i64 a.2] 24))
  have D := Lib.hid ((Below.refl w.heap.size w).alloc (Nat.le_refl _) (.cells #[.int .i64 a.1, .int .i64 a.2] 24))
  have kn := fun W => ikno_any (.slice a' 0 ca) [] W ⟨a', ca, rfl, Nat.zero_le _, Nat.zero_le _, .inl rfl⟩
  obtain ⟨R, hR⟩ : ∃ q, Hid (avB n a [] = q) := ⟨_, Lib.hid rfl⟩
  rw [hR.out]
  go_enter Try.func6, Try.ntmps6
  go_upto_region 1 with fail
  obtain ⟨ab, hab⟩ : ∃ c, Hid (w.heap.size = c) := ⟨_, Lib.hid rfl⟩
  rw [hab.out] at A ⊢
  generalize w.alloc (.cells #[.int .i64 a.1, .int .i64 a.2] 24) = w1 at A D ⊢
  go_wp2_with fail
  refine (ivrp_any n _).mono ?_
  rintro e w2 ⟨rfl, rfl⟩
  by_cases hn : 1 ≤ n ∧ n ≤ 5
  · rw [decide_eq_true hn]
    obtain ⟨z0, z1, _, _⟩ := blk2 A.out
    have zl := lt_of_heap A.out
    go_wp2_with fail
    refine (ivid_any a.1 a.2 _).mono ?_
    rintro e w3 ⟨rfl, B⟩
    replace D := Lib.hid (bstep D.out B)
    clear B z0 z1 zl A
    obtain ⟨p, hp⟩ : ∃ q, Hid (idB a.1 a.2 = q) := ⟨_, Lib.hid rfl⟩
    rw [hp.out]
    have hn := Lib.hid hn
    cases p
    · have hR2 := Lib.hid (hR.out.symm.trans (avB_no (n := n) (a := a) (L := []) (fun g => by have := g.2.1; unfold okP at this; rw [hp.out] at this; cases this)))
      clear kn
      go_wp2_with fail
      go_ret
      exact ⟨by rw [hR2.out]; rfl, D.out⟩
    · have hR2 := Lib.hid (hR.out.symm.trans (avB_yes (n := n) (a := a) (L := []) ⟨hn.out, hp.out, fun i hi => absurd hi (Nat.not_lt_zero _), fun i j hi => absurd hi (Nat.not_lt_zero _)⟩))
      go_wp2_with fail
      refine wp_loop_rounds 1 ?_
      rw [rounds_succ]
      go_wp2_with fail
      refine (kn _).mono ?_
      rintro e w5 ⟨⟨v5, rfl, hE⟩, B⟩
      have D5 := Lib.hid (bstep D.out B)
      obtain ⟨a5, c5, hv5, _⟩ := hE
      rw [show (knownL []).length = 0 from rfl] at hv5
      subst hv5
      clear B kn
      go_wp2_with fail
      refine wp_loop_rounds 1 ?_
      rw [rounds_succ]
      go_wp2_with fail
      go_ret
      exact ⟨by rw [hR2.out]; rfl, D5.out⟩
  · rw [decide_eq_false hn]
    have hR2 := Lib.hid (hR.out.symm.trans (avB_no (n := n) (a := a) (L := []) (fun g => hn g.1)))
    clear kn
    go_wp2_with fail
    go_ret
    exact ⟨by rw [hR2.out]; rfl, D.out⟩
theorem iava_any (u : Value) (n : Int) (a : Pid) (L : List An) (w : World) (h : Ans w u L) :
    Calls Try.prog 6 #[.int .i64 n, .agg #[.int .i64 a.1, .int .i64 a.2], u] w fun e w' => e = .returned (.bool (avB n a L)) ∧ Below w.heap.size w w' := by
  obtain ⟨a', cap, rfl, h1, h2, h3⟩ := h
  rcases h3 with h3 | ⟨b, off, U, rfl, h4⟩
  · obtain rfl : L = [] := List.length_eq_zero_iff.1 h3
    exact iava_nil a' cap n a w
  · exact iava_at b off cap n a L U w h2 h4
end Go.Proofs.Ytblkpkjgmjnimaa
