/- Texts laid together. -/
import Derived.Test.YtigaepbhbfpijaaDoorC01
import Derived.Deep.RegionHeld3
import Derived.Deep.RegionWith
/- The model's DepsValid. -/
namespace Go.Proofs.YtigaepbhbfpijaaDoor
open Go.RowKit
set_option linter.unusedVariables false

theorem srt_eq {L : List Pid} {n : Nat} (hn : L.length = n) (h1 : L.all okP = true) (h2 : Asc L) : srtB L = decide (n ≤ 12) := by
  by_cases h : n ≤ 12
  · rw [srt_to (by rw [hn]; exact h) h1 h2, decide_eq_true h]
  · rw [srt_long (by rw [hn]; exact h), decide_eq_false h]

set_option maxRecDepth 100000 in
set_option maxHeartbeats 4000000 in
theorem sval_at (b off ca : Nat) (L : List Pid) (w : World) (hb : b < w.heap.size) (hm : L.length ≤ 2000000) (h : ∀ i, i < L.length → w.cell? ⟨b, off + i * 2, none⟩ = some (.int .i64 (L.getD i nop).1) ∧ w.cell? ⟨b, off + i * 2 + 1, none⟩ = some (.int .i64 (L.getD i nop).2)) :
    Calls Tryd.prog 23 #[.slice (some ⟨b, off, none⟩) L.length ca] w fun e w' => e = .returned (.bool (srtB L)) ∧ Below w.heap.size w w' := by
  have h := Lib.hid h
  obtain ⟨n, hn⟩ : ∃ n, Hid (L.length = n) := ⟨_, Lib.hid rfl⟩
  obtain ⟨qs, hqs⟩ : ∃ q, Hid (srtB L = q) := ⟨_, Lib.hid rfl⟩
  rw [hn.out] at hm ⊢
  rw [hqs.out]
  go_enter Tryd.func23, Tryd.ntmps23
  go_wp2_with fail
  go_loopw [3] (fun i wr => ∃ k : Nat, k ≤ n ∧ i = .int .i64 k ∧ Hid (∀ j, j < k → okP (L.getD j nop) = true) ∧ Hid (∀ j, j + 1 < k → ltP (L.getD j nop) (L.getD (j + 1) nop) = true) ∧ Below w.heap.size w wr) (fun i _ => n - (intOf i).toNat)
  case atStart => exact ⟨0, Nat.zero_le _, rfl, Lib.hid fun j hj => absurd hj (Nat.not_lt_zero _), Lib.hid fun j hj => absurd hj (Nat.not_lt_zero _), Below.refl _ _⟩
  case round =>
    obtain ⟨k, hk, rfl, hok, hadj, hnx⟩ := hrel
    by_cases hlt : k < n
    · obtain ⟨h0, h1⟩ := h.out k (by rw [hn.out]; exact hlt)
      have q0 := (hnx.cell (p := ⟨b, off + k * 2, none⟩) hb).trans h0
      have q1 := (hnx.cell (p := ⟨b, off + k * 2 + 1, none⟩) hb).trans h1
      clear h0 h1
      obtain ⟨c, hc⟩ : ∃ c, Hid (L.getD k nop = c) := ⟨_, Lib.hid rfl⟩
      rw [hc.out] at q0 q1
      obtain ⟨p, r⟩ := c
      dsimp only at q0 q1
      have sv := svid_any p r
      obtain ⟨q, hq⟩ : ∃ q, Hid (idB p r = q) := ⟨_, Lib.hid rfl⟩
      rw [hq.out] at sv
      have hnx := Lib.hid hnx
      cases q
      · have hR := srt_bad (by rw [hn.out]; exact hlt) (show okP (L.getD k nop) = false by rw [hc.out]; exact hq.out)
        rw [hqs.out] at hR
        subst hR
        clear h
        go_upto_region 4 with fail
        refine wp_region_held_drew (S := fun w' => w'.cell? ⟨b, off + k * 2, none⟩ = some (.int .i64 p) ∧ w'.cell? ⟨b, off + k * 2 + 1, none⟩ = some (.int .i64 r) ∧ Below wr.heap.size wr w') (by kernel_rfl) ⟨q0, q1, Below.drew (Below.refl _ _)⟩ (fun hHeld => ?_)
        refine wpAnyH_take (i := 0) (oi := ⟨some 10, _, _, _, _, _⟩) (v := ?_) rfl (by kernel_rfl) (by kernel_rfl) (by kernel_rfl) (fun _ _ _ h => h) (Or.inl ⟨by rfl, ?_⟩) (by assumption) ?_
        rotate_left 1
        · intro w hSw; (try dsimp only at hSw); go_simp; try (with_reducible rfl)
        try simp only [Act.put, List.setIfInBounds_toArray, List.set_cons_zero, List.set_cons_succ]
        refine wpAnyH_take (i := 1) (oi := ⟨some 11, _, _, _, _, _⟩) (v := ?_) rfl (by kernel_rfl) (by kernel_rfl) (by kernel_rfl) (fun _ _ _ h => h) (Or.inl ⟨by rfl, ?_⟩) (by assumption) ?_
        rotate_left 1
        · intro w hSw; (try dsimp only at hSw); go_simp; try (with_reducible rfl)
        try simp only [Act.put, List.setIfInBounds_toArray, List.set_cons_zero, List.set_cons_succ]
        refine wpAnyH_take (i := 2) (oi := ⟨some 12, _, _, _, _, _⟩) (v := ?_) rfl (by kernel_rfl) (by kernel_rfl) (by kernel_rfl) (fun _ _ _ h => h) (Or.inl ⟨by rfl, ?_⟩) (by assumption) ?_
        rotate_left 1
        · intro w hSw; (try dsimp only at hSw); go_simp; try (with_reducible rfl)
        try simp only [Act.put, List.setIfInBounds_toArray, List.set_cons_zero, List.set_cons_succ]
        refine wpAnyH_take (i := 3) (oi := ⟨some 13, _, _, _, _, _⟩) (v := ?_) rfl (by kernel_rfl) (by kernel_rfl) (by kernel_rfl) (fun _ _ _ h => h) (Or.inl ⟨by rfl, ?_⟩) (by assumption) ?_
        rotate_left 1
        · intro w hSw; (try dsimp only at hSw); go_simp; try (with_reducible rfl)
        try simp only [Act.put, List.setIfInBounds_toArray, List.set_cons_zero, List.set_cons_succ]
        refine wpAnyH_ready (rs := [4]) (by kernel_rfl) (by simp) ?_
        refine AllReadyH.cons (o := ⟨some 14, _, _, _, _, _⟩) rfl (fun K hK => ?_) AllReadyH.nil
        go_simp
        refine (sv _).mono ?_
        rintro e w2 ⟨rfl, hb⟩
        go_wp2_with fail
        refine hK.out _ _ ?_ (fun hHeld2 => ?_)
        · exact ⟨cell_later hb hHeld.1, cell_later hb hHeld.2.1, hHeld.2.2.trans (hb.mono hHeld.2.2.size)⟩
        clear hK K hHeld hb
        have hHeld := hHeld2
        clear hHeld2
        try simp only [Act.put, List.setIfInBounds_toArray, List.set_cons_zero, List.set_cons_succ]
        refine wpAnyH_take (i := 5) (oi := ⟨some 15, _, _, _, _, _⟩) (v := ?_) rfl (by kernel_rfl) (by kernel_rfl) (by kernel_rfl) (fun _ _ _ h => h) (Or.inl ⟨by rfl, ?_⟩) (by assumption) ?_
        rotate_left 1
        · intro w hSw; (try dsimp only at hSw); go_simp; try (with_reducible rfl)
        try simp only [Act.put, List.setIfInBounds_toArray, List.set_cons_zero, List.set_cons_succ]
        refine wpAnyH_take (i := 6) (oi := ⟨some 16, _, _, _, _, _⟩) (v := ?_) rfl (by kernel_rfl) (by kernel_rfl) (by kernel_rfl) (fun _ _ _ h => h) (Or.inl ⟨by rfl, ?_⟩) (by assumption) ?_
        rotate_left 1
        · intro w hSw; (try dsimp only at hSw); go_simp; try (with_reducible rfl)
        try simp only [Act.put, List.setIfInBounds_toArray, List.set_cons_zero, List.set_cons_succ]
        refine wpAnyH_take (i := 7) (oi := ⟨some 17, _, _, _, _, _⟩) (v := undef) rfl (by kernel_rfl) (by kernel_rfl) (by kernel_rfl) (fun _ _ _ h => h) (Or.inr ⟨by rfl, rfl⟩) (by assumption) ?_
        try simp only [Act.put, List.setIfInBounds_toArray, List.set_cons_zero, List.set_cons_succ]
        refine wpAnyH_take (i := 8) (oi := ⟨some 18, _, _, _, _, _⟩) (v := undef) rfl (by kernel_rfl) (by kernel_rfl) (by kernel_rfl) (fun _ _ _ h => h) (Or.inr ⟨by rfl, rfl⟩) (by assumption) ?_
        try simp only [Act.put, List.setIfInBounds_toArray, List.set_cons_zero, List.set_cons_succ]
        refine wpAnyH_take (i := 9) (oi := ⟨some 19, _, _, _, _, _⟩) (v := undef) rfl (by kernel_rfl) (by kernel_rfl) (by kernel_rfl) (fun _ _ _ h => h) (Or.inr ⟨by rfl, rfl⟩) (by assumption) ?_
        try simp only [Act.put, List.setIfInBounds_toArray, List.set_cons_zero, List.set_cons_succ]
        refine wpAnyH_take (i := 10) (oi := ⟨some 20, _, _, _, _, _⟩) (v := undef) rfl (by kernel_rfl) (by kernel_rfl) (by kernel_rfl) (fun _ _ _ h => h) (Or.inr ⟨by rfl, rfl⟩) (by assumption) ?_
        try simp only [Act.put, List.setIfInBounds_toArray, List.set_cons_zero, List.set_cons_succ]
        refine wpAnyH_take (i := 11) (oi := ⟨some 21, _, _, _, _, _⟩) (v := undef) rfl (by kernel_rfl) (by kernel_rfl) (by kernel_rfl) (fun _ _ _ h => h) (Or.inr ⟨by rfl, rfl⟩) (by assumption) ?_
        try simp only [Act.put, List.setIfInBounds_toArray, List.set_cons_zero, List.set_cons_succ]
        refine wpAnyH_take (i := 12) (oi := ⟨some 22, _, _, _, _, _⟩) (v := undef) rfl (by kernel_rfl) (by kernel_rfl) (by kernel_rfl) (fun _ _ _ h => h) (Or.inr ⟨by rfl, rfl⟩) (by assumption) ?_
        try simp only [Act.put, List.setIfInBounds_toArray, List.set_cons_zero, List.set_cons_succ]
        refine wpAnyH_take (i := 13) (oi := ⟨some 23, _, _, _, _, _⟩) (v := undef) rfl (by kernel_rfl) (by kernel_rfl) (by kernel_rfl) (fun _ _ _ h => h) (Or.inr ⟨by rfl, rfl⟩) (by assumption) ?_
        try simp only [Act.put, List.setIfInBounds_toArray, List.set_cons_zero, List.set_cons_succ]
        refine wpAnyH_take (i := 14) (oi := ⟨some 24, _, _, _, _, _⟩) (v := undef) rfl (by kernel_rfl) (by kernel_rfl) (by kernel_rfl) (fun _ _ _ h => h) (Or.inr ⟨by rfl, rfl⟩) (by assumption) ?_
        try simp only [Act.put, List.setIfInBounds_toArray, List.set_cons_zero, List.set_cons_succ]
        refine wpAnyH_take (i := 15) (oi := ⟨some 25, _, _, _, _, _⟩) (v := undef) rfl (by kernel_rfl) (by kernel_rfl) (by kernel_rfl) (fun _ _ _ h => h) (Or.inr ⟨by rfl, rfl⟩) (by assumption) ?_
        try simp only [Act.put, List.setIfInBounds_toArray, List.set_cons_zero, List.set_cons_succ]
        refine wpAnyH_take (i := 16) (oi := ⟨some 26, _, _, _, _, _⟩) (v := undef) rfl (by kernel_rfl) (by kernel_rfl) (by kernel_rfl) (fun _ _ _ h => h) (Or.inr ⟨by rfl, rfl⟩) (by assumption) ?_
        try simp only [Act.put, List.setIfInBounds_toArray, List.set_cons_zero, List.set_cons_succ]
        refine wpAnyH_take (i := 17) (oi := ⟨some 27, _, _, _, _, _⟩) (v := undef) rfl (by kernel_rfl) (by kernel_rfl) (by kernel_rfl) (fun _ _ _ h => h) (Or.inr ⟨by rfl, rfl⟩) (by assumption) ?_
        try simp only [Act.put, List.setIfInBounds_toArray, List.set_cons_zero, List.set_cons_succ]
        refine wpAnyH_take (i := 18) (oi := ⟨some 28, _, _, _, _, _⟩) (v := undef) rfl (by kernel_rfl) (by kernel_rfl) (by kernel_rfl) (fun _ _ _ h => h) (Or.inr ⟨by rfl, rfl⟩) (by assumption) ?_
        try simp only [Act.put, List.setIfInBounds_toArray, List.set_cons_zero, List.set_cons_succ]
        refine wpAnyH_take (i := 19) (oi := ⟨some 29, _, _, _, _, _⟩) (v := undef) rfl (by kernel_rfl) (by kernel_rfl) (by kernel_rfl) (fun _ _ _ h => h) (Or.inr ⟨by rfl, rfl⟩) (by assumption) ?_
        try simp only [Act.put, List.setIfInBounds_toArray, List.set_cons_zero, List.set_cons_succ]
        refine wpAnyH_take (i := 20) (oi := ⟨some 30, _, _, _, _, _⟩) (v := undef) rfl (by kernel_rfl) (by kernel_rfl) (by kernel_rfl) (fun _ _ _ h => h) (Or.inr ⟨by rfl, rfl⟩) (by assumption) ?_
        try simp only [Act.put, List.setIfInBounds_toArray, List.set_cons_zero, List.set_cons_succ]
        refine wpAnyH_take (i := 21) (oi := ⟨some 31, _, _, _, _, _⟩) (v := undef) rfl (by kernel_rfl) (by kernel_rfl) (by kernel_rfl) (fun _ _ _ h => h) (Or.inr ⟨by rfl, rfl⟩) (by assumption) ?_
        try simp only [Act.put, List.setIfInBounds_toArray, List.set_cons_zero, List.set_cons_succ]
        refine wpAnyH_take (i := 22) (oi := ⟨some 32, _, _, _, _, _⟩) (v := ?_) rfl (by kernel_rfl) (by kernel_rfl) (by kernel_rfl) (fun _ _ _ h => h) (Or.inl ⟨by rfl, ?_⟩) (by assumption) ?_
        rotate_left 1
        · intro w hSw; (try dsimp only at hSw); go_simp; try (with_reducible rfl)
        try simp only [Act.put, List.setIfInBounds_toArray, List.set_cons_zero, List.set_cons_succ]
        refine wpAnyH_done (by kernel_rfl) ?_ _
        try simp only [Act.put, List.setIfInBounds_toArray, List.set_cons_zero, List.set_cons_succ]
        have D2 := Lib.hid (bstep hnx.out hHeld.2.2)
        clear hHeld
        go_wp2_with fail
        go_ret
        exact ⟨rfl, D2.out⟩
      · have hokk : okP (L.getD k nop) = true := by rw [hc.out]; exact hq.out
        have hok' := Lib.hid (up_to hok.out hokk)
        by_cases hk0 : k = 0
        · subst hk0
          simp only [Nat.zero_mul, Nat.add_zero] at q0 q1
          have hadj' : Hid (∀ j, j + 1 < 0 + 1 → ltP (L.getD j nop) (L.getD (j + 1) nop) = true) := Lib.hid (fun j hj => absurd hj (by omega))
          go_upto_region 4 with fail
          refine wp_region_held_drew (S := fun w' => w'.cell? ⟨b, off, none⟩ = some (.int .i64 p) ∧ w'.cell? ⟨b, off + 1, none⟩ = some (.int .i64 r) ∧ Below wr.heap.size wr w') (by kernel_rfl) ⟨q0, q1, Below.drew (Below.refl _ _)⟩ (fun hHeld => ?_)
          refine wpAnyH_take (i := 0) (oi := ⟨some 10, _, _, _, _, _⟩) (v := ?_) rfl (by kernel_rfl) (by kernel_rfl) (by kernel_rfl) (fun _ _ _ h => h) (Or.inl ⟨by rfl, ?_⟩) (by assumption) ?_
          rotate_left 1
          · intro w hSw; (try dsimp only at hSw); go_simp; try (with_reducible rfl)
          try simp only [Act.put, List.setIfInBounds_toArray, List.set_cons_zero, List.set_cons_succ]
          refine wpAnyH_take (i := 1) (oi := ⟨some 11, _, _, _, _, _⟩) (v := ?_) rfl (by kernel_rfl) (by kernel_rfl) (by kernel_rfl) (fun _ _ _ h => h) (Or.inl ⟨by rfl, ?_⟩) (by assumption) ?_
          rotate_left 1
          · intro w hSw; (try dsimp only at hSw); go_simp; try (with_reducible rfl)
          try simp only [Act.put, List.setIfInBounds_toArray, List.set_cons_zero, List.set_cons_succ]
          refine wpAnyH_take (i := 2) (oi := ⟨some 12, _, _, _, _, _⟩) (v := ?_) rfl (by kernel_rfl) (by kernel_rfl) (by kernel_rfl) (fun _ _ _ h => h) (Or.inl ⟨by rfl, ?_⟩) (by assumption) ?_
          rotate_left 1
          · intro w hSw; (try dsimp only at hSw); go_simp; try (with_reducible rfl)
          try simp only [Act.put, List.setIfInBounds_toArray, List.set_cons_zero, List.set_cons_succ]
          refine wpAnyH_take (i := 3) (oi := ⟨some 13, _, _, _, _, _⟩) (v := ?_) rfl (by kernel_rfl) (by kernel_rfl) (by kernel_rfl) (fun _ _ _ h => h) (Or.inl ⟨by rfl, ?_⟩) (by assumption) ?_
          rotate_left 1
          · intro w hSw; (try dsimp only at hSw); go_simp; try (with_reducible rfl)
          try simp only [Act.put, List.setIfInBounds_toArray, List.set_cons_zero, List.set_cons_succ]
          refine wpAnyH_ready (rs := [4]) (by kernel_rfl) (by simp) ?_
          refine AllReadyH.cons (o := ⟨some 14, _, _, _, _, _⟩) rfl (fun K hK => ?_) AllReadyH.nil
          go_simp
          refine (sv _).mono ?_
          rintro e w2 ⟨rfl, hb⟩
          go_wp2_with fail
          refine hK.out _ _ ?_ (fun hHeld2 => ?_)
          · exact ⟨cell_later hb hHeld.1, cell_later hb hHeld.2.1, hHeld.2.2.trans (hb.mono hHeld.2.2.size)⟩
          clear hK K hHeld hb
          have hHeld := hHeld2
          clear hHeld2
          try simp only [Act.put, List.setIfInBounds_toArray, List.set_cons_zero, List.set_cons_succ]
          refine wpAnyH_take (i := 5) (oi := ⟨some 15, _, _, _, _, _⟩) (v := ?_) rfl (by kernel_rfl) (by kernel_rfl) (by kernel_rfl) (fun _ _ _ h => h) (Or.inl ⟨by rfl, ?_⟩) (by assumption) ?_
          rotate_left 1
          · intro w hSw; (try dsimp only at hSw); go_simp; try (with_reducible rfl)
          try simp only [Act.put, List.setIfInBounds_toArray, List.set_cons_zero, List.set_cons_succ]
          refine wpAnyH_take (i := 6) (oi := ⟨some 16, _, _, _, _, _⟩) (v := ?_) rfl (by kernel_rfl) (by kernel_rfl) (by kernel_rfl) (fun _ _ _ h => h) (Or.inl ⟨by rfl, ?_⟩) (by assumption) ?_
          rotate_left 1
          · intro w hSw; (try dsimp only at hSw); go_simp; try (with_reducible rfl)
          try simp only [Act.put, List.setIfInBounds_toArray, List.set_cons_zero, List.set_cons_succ]
          refine wpAnyH_take (i := 7) (oi := ⟨some 17, _, _, _, _, _⟩) (v := ?_) rfl (by kernel_rfl) (by kernel_rfl) (by kernel_rfl) (fun _ _ _ h => h) (Or.inl ⟨by rfl, ?_⟩) (by assumption) ?_
          rotate_left 1
          · intro w hSw; (try dsimp only at hSw); go_simp; try (with_reducible rfl)
          try simp only [Act.put, List.setIfInBounds_toArray, List.set_cons_zero, List.set_cons_succ]
          refine wpAnyH_take (i := 8) (oi := ⟨some 18, _, _, _, _, _⟩) (v := ?_) rfl (by kernel_rfl) (by kernel_rfl) (by kernel_rfl) (fun _ _ _ h => h) (Or.inl ⟨by rfl, ?_⟩) (by assumption) ?_
          rotate_left 1
          · intro w hSw; (try dsimp only at hSw); go_simp; try (with_reducible rfl)
          try simp only [Act.put, List.setIfInBounds_toArray, List.set_cons_zero, List.set_cons_succ]
          refine wpAnyH_take (i := 9) (oi := ⟨some 19, _, _, _, _, _⟩) (v := ?_) rfl (by kernel_rfl) (by kernel_rfl) (by kernel_rfl) (fun _ _ _ h => h) (Or.inl ⟨by rfl, ?_⟩) (by assumption) ?_
          rotate_left 1
          · intro w hSw; (try dsimp only at hSw); go_simp; try (with_reducible rfl)
          try simp only [Act.put, List.setIfInBounds_toArray, List.set_cons_zero, List.set_cons_succ]
          refine wpAnyH_take (i := 10) (oi := ⟨some 20, _, _, _, _, _⟩) (v := undef) rfl (by kernel_rfl) (by kernel_rfl) (by kernel_rfl) (fun _ _ _ h => h) (Or.inr ⟨by rfl, rfl⟩) (by assumption) ?_
          try simp only [Act.put, List.setIfInBounds_toArray, List.set_cons_zero, List.set_cons_succ]
          refine wpAnyH_take (i := 11) (oi := ⟨some 21, _, _, _, _, _⟩) (v := undef) rfl (by kernel_rfl) (by kernel_rfl) (by kernel_rfl) (fun _ _ _ h => h) (Or.inr ⟨by rfl, rfl⟩) (by assumption) ?_
          try simp only [Act.put, List.setIfInBounds_toArray, List.set_cons_zero, List.set_cons_succ]
          refine wpAnyH_take (i := 12) (oi := ⟨some 22, _, _, _, _, _⟩) (v := undef) rfl (by kernel_rfl) (by kernel_rfl) (by kernel_rfl) (fun _ _ _ h => h) (Or.inr ⟨by rfl, rfl⟩) (by assumption) ?_
          try simp only [Act.put, List.setIfInBounds_toArray, List.set_cons_zero, List.set_cons_succ]
          refine wpAnyH_take (i := 13) (oi := ⟨some 23, _, _, _, _, _⟩) (v := undef) rfl (by kernel_rfl) (by kernel_rfl) (by kernel_rfl) (fun _ _ _ h => h) (Or.inr ⟨by rfl, rfl⟩) (by assumption) ?_
          try simp only [Act.put, List.setIfInBounds_toArray, List.set_cons_zero, List.set_cons_succ]
          refine wpAnyH_take (i := 14) (oi := ⟨some 24, _, _, _, _, _⟩) (v := undef) rfl (by kernel_rfl) (by kernel_rfl) (by kernel_rfl) (fun _ _ _ h => h) (Or.inr ⟨by rfl, rfl⟩) (by assumption) ?_
          try simp only [Act.put, List.setIfInBounds_toArray, List.set_cons_zero, List.set_cons_succ]
          refine wpAnyH_take (i := 15) (oi := ⟨some 25, _, _, _, _, _⟩) (v := undef) rfl (by kernel_rfl) (by kernel_rfl) (by kernel_rfl) (fun _ _ _ h => h) (Or.inr ⟨by rfl, rfl⟩) (by assumption) ?_
          try simp only [Act.put, List.setIfInBounds_toArray, List.set_cons_zero, List.set_cons_succ]
          refine wpAnyH_take (i := 16) (oi := ⟨some 26, _, _, _, _, _⟩) (v := undef) rfl (by kernel_rfl) (by kernel_rfl) (by kernel_rfl) (fun _ _ _ h => h) (Or.inr ⟨by rfl, rfl⟩) (by assumption) ?_
          try simp only [Act.put, List.setIfInBounds_toArray, List.set_cons_zero, List.set_cons_succ]
          refine wpAnyH_take (i := 17) (oi := ⟨some 27, _, _, _, _, _⟩) (v := undef) rfl (by kernel_rfl) (by kernel_rfl) (by kernel_rfl) (fun _ _ _ h => h) (Or.inr ⟨by rfl, rfl⟩) (by assumption) ?_
          try simp only [Act.put, List.setIfInBounds_toArray, List.set_cons_zero, List.set_cons_succ]
          refine wpAnyH_take (i := 18) (oi := ⟨some 28, _, _, _, _, _⟩) (v := undef) rfl (by kernel_rfl) (by kernel_rfl) (by kernel_rfl) (fun _ _ _ h => h) (Or.inr ⟨by rfl, rfl⟩) (by assumption) ?_
          try simp only [Act.put, List.setIfInBounds_toArray, List.set_cons_zero, List.set_cons_succ]
          refine wpAnyH_take (i := 19) (oi := ⟨some 29, _, _, _, _, _⟩) (v := undef) rfl (by kernel_rfl) (by kernel_rfl) (by kernel_rfl) (fun _ _ _ h => h) (Or.inr ⟨by rfl, rfl⟩) (by assumption) ?_
          try simp only [Act.put, List.setIfInBounds_toArray, List.set_cons_zero, List.set_cons_succ]
          refine wpAnyH_take (i := 20) (oi := ⟨some 30, _, _, _, _, _⟩) (v := undef) rfl (by kernel_rfl) (by kernel_rfl) (by kernel_rfl) (fun _ _ _ h => h) (Or.inr ⟨by rfl, rfl⟩) (by assumption) ?_
          try simp only [Act.put, List.setIfInBounds_toArray, List.set_cons_zero, List.set_cons_succ]
          refine wpAnyH_take (i := 21) (oi := ⟨some 31, _, _, _, _, _⟩) (v := ?_) rfl (by kernel_rfl) (by kernel_rfl) (by kernel_rfl) (fun _ _ _ h => h) (Or.inl ⟨by rfl, ?_⟩) (by assumption) ?_
          rotate_left 1
          · intro w hSw; (try dsimp only at hSw); go_simp; try (with_reducible rfl)
          try simp only [Act.put, List.setIfInBounds_toArray, List.set_cons_zero, List.set_cons_succ]
          refine wpAnyH_take (i := 22) (oi := ⟨some 32, _, _, _, _, _⟩) (v := ?_) rfl (by kernel_rfl) (by kernel_rfl) (by kernel_rfl) (fun _ _ _ h => h) (Or.inl ⟨by rfl, ?_⟩) (by assumption) ?_
          rotate_left 1
          · intro w hSw; (try dsimp only at hSw); go_simp; try (with_reducible rfl)
          try simp only [Act.put, List.setIfInBounds_toArray, List.set_cons_zero, List.set_cons_succ]
          refine wpAnyH_done (by kernel_rfl) ?_ _
          try simp only [Act.put, List.setIfInBounds_toArray, List.set_cons_zero, List.set_cons_succ]
          have D2 := Lib.hid (bstep hnx.out hHeld.2.2)
          clear hHeld
          go_wp2_with fail
          go_roundw
          case rel => exact ⟨0 + 1, by omega, by go_num, hok', hadj', D2.out⟩
          case measure => simp [intOf]; omega
        · obtain ⟨j, rfl⟩ : ∃ j, k = j + 1 := ⟨k - 1, by omega⟩
          obtain ⟨h0, h1⟩ := h.out j (by rw [hn.out]; omega)
          have b0 := (hnx.out.cell (p := ⟨b, off + j * 2, none⟩) hb).trans h0
          have b1 := (hnx.out.cell (p := ⟨b, off + j * 2 + 1, none⟩) hb).trans h1
          obtain ⟨c', hc'⟩ : ∃ c', Hid (L.getD j nop = c') := ⟨_, Lib.hid rfl⟩
          rw [hc'.out] at b0 b1
          obtain ⟨p', r'⟩ := c'
          dsimp only at b0 b1
          have sc := slt_any p' r' p r
          obtain ⟨x, hx⟩ : ∃ x, Hid (ltB p' r' p r = x) := ⟨_, Lib.hid rfl⟩
          rw [hx.out] at sc
          have hadd : ltP (L.getD j nop) (L.getD (j + 1) nop) = x := by rw [hc'.out, hc.out]; exact hx.out
          have hadd := Lib.hid hadd
          have i0 : (0 : Int) ≤ (j : Int) := by omega
          have i1 : (j : Int) < (n : Int) := by omega
          have i2 : (j : Int) ≤ (n : Int) := by omega
          have e0 : (0 : Int) ≤ (j : Int) + 1 := by omega
          have e1 : (j : Int) + 1 < (n : Int) := by omega
          have e2 : (j : Int) + 1 ≤ (n : Int) := by omega
          have d3 : IntKind.i64.wrap (j : Int) = (j : Int) := IntWalk.i64_in _ (by omega)
          have d2 : IntKind.i64.wrap ((j : Int) + 1 - 1) = (j : Int) := by rw [show (j : Int) + 1 - 1 = j by omega]; exact d3
          have c3 : ((j : Int) + 1).toNat = j + 1 := by omega
          clear h0 h1
          cases x
          · have hR := srt_turn (L := L) (k := j) (by rw [hn.out]; omega) hadd.out
            rw [hqs.out] at hR
            subst hR
            clear h
            go_upto_region 4 with fail
            refine wp_region_held_drew (S := fun w' => w'.cell? ⟨b, off + (j + 1) * 2, none⟩ = some (.int .i64 p) ∧ w'.cell? ⟨b, off + (j + 1) * 2 + 1, none⟩ = some (.int .i64 r) ∧ w'.cell? ⟨b, off + j * 2, none⟩ = some (.int .i64 p') ∧ w'.cell? ⟨b, off + j * 2 + 1, none⟩ = some (.int .i64 r') ∧ Below wr.heap.size wr w') (by kernel_rfl) ⟨q0, q1, b0, b1, Below.drew (Below.refl _ _)⟩ (fun hHeld => ?_)
            refine wpAnyH_take (i := 0) (oi := ⟨some 10, _, _, _, _, _⟩) (v := ?_) rfl (by kernel_rfl) (by kernel_rfl) (by kernel_rfl) (fun _ _ _ h => h) (Or.inl ⟨by rfl, ?_⟩) (by assumption) ?_
            rotate_left 1
            · intro w hSw; (try dsimp only at hSw); go_simp; try (with_reducible rfl)
            try simp only [Act.put, List.setIfInBounds_toArray, List.set_cons_zero, List.set_cons_succ]
            refine wpAnyH_take (i := 1) (oi := ⟨some 11, _, _, _, _, _⟩) (v := ?_) rfl (by kernel_rfl) (by kernel_rfl) (by kernel_rfl) (fun _ _ _ h => h) (Or.inl ⟨by rfl, ?_⟩) (by assumption) ?_
            rotate_left 1
            · intro w hSw; (try dsimp only at hSw); go_simp; try (with_reducible rfl)
            try simp only [Act.put, List.setIfInBounds_toArray, List.set_cons_zero, List.set_cons_succ]
            refine wpAnyH_take (i := 2) (oi := ⟨some 12, _, _, _, _, _⟩) (v := ?_) rfl (by kernel_rfl) (by kernel_rfl) (by kernel_rfl) (fun _ _ _ h => h) (Or.inl ⟨by rfl, ?_⟩) (by assumption) ?_
            rotate_left 1
            · intro w hSw; (try dsimp only at hSw); go_simp; try (with_reducible rfl)
            try simp only [Act.put, List.setIfInBounds_toArray, List.set_cons_zero, List.set_cons_succ]
            refine wpAnyH_take (i := 3) (oi := ⟨some 13, _, _, _, _, _⟩) (v := ?_) rfl (by kernel_rfl) (by kernel_rfl) (by kernel_rfl) (fun _ _ _ h => h) (Or.inl ⟨by rfl, ?_⟩) (by assumption) ?_
            rotate_left 1
            · intro w hSw; (try dsimp only at hSw); go_simp; try (with_reducible rfl)
            try simp only [Act.put, List.setIfInBounds_toArray, List.set_cons_zero, List.set_cons_succ]
            refine wpAnyH_ready (rs := [4]) (by kernel_rfl) (by simp) ?_
            refine AllReadyH.cons (o := ⟨some 14, _, _, _, _, _⟩) rfl (fun K hK => ?_) AllReadyH.nil
            go_simp
            refine (sv _).mono ?_
            rintro e w2 ⟨rfl, hb⟩
            go_wp2_with fail
            refine hK.out _ _ ?_ (fun hHeld2 => ?_)
            · exact ⟨cell_later hb hHeld.1, cell_later hb hHeld.2.1, cell_later hb hHeld.2.2.1, cell_later hb hHeld.2.2.2.1, hHeld.2.2.2.2.trans (hb.mono hHeld.2.2.2.2.size)⟩
            clear hK K hHeld hb
            have hHeld := hHeld2
            clear hHeld2
            try simp only [Act.put, List.setIfInBounds_toArray, List.set_cons_zero, List.set_cons_succ]
            refine wpAnyH_take (i := 5) (oi := ⟨some 15, _, _, _, _, _⟩) (v := ?_) rfl (by kernel_rfl) (by kernel_rfl) (by kernel_rfl) (fun _ _ _ h => h) (Or.inl ⟨by rfl, ?_⟩) (by assumption) ?_
            rotate_left 1
            · intro w hSw; (try dsimp only at hSw); go_simp; try (with_reducible rfl)
            try simp only [Act.put, List.setIfInBounds_toArray, List.set_cons_zero, List.set_cons_succ]
            refine wpAnyH_take (i := 6) (oi := ⟨some 16, _, _, _, _, _⟩) (v := ?_) rfl (by kernel_rfl) (by kernel_rfl) (by kernel_rfl) (fun _ _ _ h => h) (Or.inl ⟨by rfl, ?_⟩) (by assumption) ?_
            rotate_left 1
            · intro w hSw; (try dsimp only at hSw); go_simp; try (with_reducible rfl)
            try simp only [Act.put, List.setIfInBounds_toArray, List.set_cons_zero, List.set_cons_succ]
            refine wpAnyH_take (i := 7) (oi := ⟨some 17, _, _, _, _, _⟩) (v := ?_) rfl (by kernel_rfl) (by kernel_rfl) (by kernel_rfl) (fun _ _ _ h => h) (Or.inl ⟨by rfl, ?_⟩) (by assumption) ?_
            rotate_left 1
            · intro w hSw; (try dsimp only at hSw); go_simp; try (with_reducible rfl)
            try simp only [Act.put, List.setIfInBounds_toArray, List.set_cons_zero, List.set_cons_succ]
            refine wpAnyH_take (i := 8) (oi := ⟨some 18, _, _, _, _, _⟩) (v := ?_) rfl (by kernel_rfl) (by kernel_rfl) (by kernel_rfl) (fun _ _ _ h => h) (Or.inl ⟨by rfl, ?_⟩) (by assumption) ?_
            rotate_left 1
            · intro w hSw; (try dsimp only at hSw); go_simp; try (with_reducible rfl)
            try simp only [Act.put, List.setIfInBounds_toArray, List.set_cons_zero, List.set_cons_succ]
            refine wpAnyH_take (i := 9) (oi := ⟨some 19, _, _, _, _, _⟩) (v := ?_) rfl (by kernel_rfl) (by kernel_rfl) (by kernel_rfl) (fun _ _ _ h => h) (Or.inl ⟨by rfl, ?_⟩) (by assumption) ?_
            rotate_left 1
            · intro w hSw; (try dsimp only at hSw); go_simp; try (with_reducible rfl)
            try simp only [Act.put, List.setIfInBounds_toArray, List.set_cons_zero, List.set_cons_succ]
            refine wpAnyH_take (i := 10) (oi := ⟨some 20, _, _, _, _, _⟩) (v := ?_) rfl (by kernel_rfl) (by kernel_rfl) (by kernel_rfl) (fun _ _ _ h => h) (Or.inl ⟨by rfl, ?_⟩) (by assumption) ?_
            rotate_left 1
            · intro w hSw; (try dsimp only at hSw); go_simp; try (with_reducible rfl)
            try simp only [Act.put, List.setIfInBounds_toArray, List.set_cons_zero, List.set_cons_succ]
            refine wpAnyH_take (i := 11) (oi := ⟨some 21, _, _, _, _, _⟩) (v := ?_) rfl (by kernel_rfl) (by kernel_rfl) (by kernel_rfl) (fun _ _ _ h => h) (Or.inl ⟨by rfl, ?_⟩) (by assumption) ?_
            rotate_left 1
            · intro w hSw; (try dsimp only at hSw); go_simp; try (with_reducible rfl)
            try simp only [Act.put, List.setIfInBounds_toArray, List.set_cons_zero, List.set_cons_succ]
            refine wpAnyH_take (i := 12) (oi := ⟨some 22, _, _, _, _, _⟩) (v := ?_) rfl (by kernel_rfl) (by kernel_rfl) (by kernel_rfl) (fun _ _ _ h => h) (Or.inl ⟨by rfl, ?_⟩) (by assumption) ?_
            rotate_left 1
            · intro w hSw; (try dsimp only at hSw); go_simp; try (with_reducible rfl)
            try simp only [Act.put, List.setIfInBounds_toArray, List.set_cons_zero, List.set_cons_succ]
            refine wpAnyH_take (i := 13) (oi := ⟨some 23, _, _, _, _, _⟩) (v := ?_) rfl (by kernel_rfl) (by kernel_rfl) (by kernel_rfl) (fun _ _ _ h => h) (Or.inl ⟨by rfl, ?_⟩) (by assumption) ?_
            rotate_left 1
            · intro w hSw; (try dsimp only at hSw); go_simp; try (with_reducible rfl)
            try simp only [Act.put, List.setIfInBounds_toArray, List.set_cons_zero, List.set_cons_succ]
            refine wpAnyH_take (i := 14) (oi := ⟨some 24, _, _, _, _, _⟩) (v := ?_) rfl (by kernel_rfl) (by kernel_rfl) (by kernel_rfl) (fun _ _ _ h => h) (Or.inl ⟨by rfl, ?_⟩) (by assumption) ?_
            rotate_left 1
            · intro w hSw; (try dsimp only at hSw); go_simp; try (with_reducible rfl)
            try simp only [Act.put, List.setIfInBounds_toArray, List.set_cons_zero, List.set_cons_succ]
            refine wpAnyH_take (i := 15) (oi := ⟨some 25, _, _, _, _, _⟩) (v := ?_) rfl (by kernel_rfl) (by kernel_rfl) (by kernel_rfl) (fun _ _ _ h => h) (Or.inl ⟨by rfl, ?_⟩) (by assumption) ?_
            rotate_left 1
            · intro w hSw; (try dsimp only at hSw); go_simp; try (with_reducible rfl)
            try simp only [Act.put, List.setIfInBounds_toArray, List.set_cons_zero, List.set_cons_succ]
            refine wpAnyH_take (i := 16) (oi := ⟨some 26, _, _, _, _, _⟩) (v := ?_) rfl (by kernel_rfl) (by kernel_rfl) (by kernel_rfl) (fun _ _ _ h => h) (Or.inl ⟨by rfl, ?_⟩) (by assumption) ?_
            rotate_left 1
            · intro w hSw; (try dsimp only at hSw); go_simp; try (with_reducible rfl)
            try simp only [Act.put, List.setIfInBounds_toArray, List.set_cons_zero, List.set_cons_succ]
            refine wpAnyH_take (i := 17) (oi := ⟨some 27, _, _, _, _, _⟩) (v := ?_) rfl (by kernel_rfl) (by kernel_rfl) (by kernel_rfl) (fun _ _ _ h => h) (Or.inl ⟨by rfl, ?_⟩) (by assumption) ?_
            rotate_left 1
            · intro w hSw; (try dsimp only at hSw); go_simp; try (with_reducible rfl)
            try simp only [Act.put, List.setIfInBounds_toArray, List.set_cons_zero, List.set_cons_succ]
            refine wpAnyH_take (i := 18) (oi := ⟨some 28, _, _, _, _, _⟩) (v := ?_) rfl (by kernel_rfl) (by kernel_rfl) (by kernel_rfl) (fun _ _ _ h => h) (Or.inl ⟨by rfl, ?_⟩) (by assumption) ?_
            rotate_left 1
            · intro w hSw; (try dsimp only at hSw); go_simp; try (with_reducible rfl)
            try simp only [Act.put, List.setIfInBounds_toArray, List.set_cons_zero, List.set_cons_succ]
            refine wpAnyH_ready (rs := [19]) (by kernel_rfl) (by simp) ?_
            refine AllReadyH.cons (o := ⟨some 29, _, _, _, _, _⟩) rfl (fun K hK => ?_) AllReadyH.nil
            go_simp
            refine (sc _).mono ?_
            rintro e w3 ⟨rfl, hb⟩
            go_wp2_with fail
            refine hK.out _ _ ?_ (fun hHeld2 => ?_)
            · exact ⟨cell_later hb hHeld.1, cell_later hb hHeld.2.1, cell_later hb hHeld.2.2.1, cell_later hb hHeld.2.2.2.1, hHeld.2.2.2.2.trans (hb.mono hHeld.2.2.2.2.size)⟩
            clear hK K hHeld hb
            have hHeld := hHeld2
            clear hHeld2
            try simp only [Act.put, List.setIfInBounds_toArray, List.set_cons_zero, List.set_cons_succ]
            refine wpAnyH_take (i := 20) (oi := ⟨some 30, _, _, _, _, _⟩) (v := ?_) rfl (by kernel_rfl) (by kernel_rfl) (by kernel_rfl) (fun _ _ _ h => h) (Or.inl ⟨by rfl, ?_⟩) (by assumption) ?_
            rotate_left 1
            · intro w hSw; (try dsimp only at hSw); go_simp; try (with_reducible rfl)
            try simp only [Act.put, List.setIfInBounds_toArray, List.set_cons_zero, List.set_cons_succ]
            refine wpAnyH_take (i := 21) (oi := ⟨some 31, _, _, _, _, _⟩) (v := ?_) rfl (by kernel_rfl) (by kernel_rfl) (by kernel_rfl) (fun _ _ _ h => h) (Or.inl ⟨by rfl, ?_⟩) (by assumption) ?_
            rotate_left 1
            · intro w hSw; (try dsimp only at hSw); go_simp; try (with_reducible rfl)
            try simp only [Act.put, List.setIfInBounds_toArray, List.set_cons_zero, List.set_cons_succ]
            refine wpAnyH_take (i := 22) (oi := ⟨some 32, _, _, _, _, _⟩) (v := ?_) rfl (by kernel_rfl) (by kernel_rfl) (by kernel_rfl) (fun _ _ _ h => h) (Or.inl ⟨by rfl, ?_⟩) (by assumption) ?_
            rotate_left 1
            · intro w hSw; (try dsimp only at hSw); go_simp; try (with_reducible rfl)
            try simp only [Act.put, List.setIfInBounds_toArray, List.set_cons_zero, List.set_cons_succ]
            refine wpAnyH_done (by kernel_rfl) ?_ _
            try simp only [Act.put, List.setIfInBounds_toArray, List.set_cons_zero, List.set_cons_succ]
            have D2 := Lib.hid (bstep hnx.out hHeld.2.2.2.2)
            clear hHeld
            go_wp2_with fail
            go_ret
            exact ⟨rfl, D2.out⟩
          · have hadj' : Hid (∀ i, i + 1 < j + 1 + 1 → ltP (L.getD i nop) (L.getD (i + 1) nop) = true) := Lib.hid (fun i hi => by
              rcases Nat.lt_or_ge (i + 1) (j + 1) with h' | h'
              · exact hadj.out i h'
              · obtain rfl : i = j := by omega
                exact hadd.out)
            go_upto_region 4 with fail
            refine wp_region_held_drew (S := fun w' => w'.cell? ⟨b, off + (j + 1) * 2, none⟩ = some (.int .i64 p) ∧ w'.cell? ⟨b, off + (j + 1) * 2 + 1, none⟩ = some (.int .i64 r) ∧ w'.cell? ⟨b, off + j * 2, none⟩ = some (.int .i64 p') ∧ w'.cell? ⟨b, off + j * 2 + 1, none⟩ = some (.int .i64 r') ∧ Below wr.heap.size wr w') (by kernel_rfl) ⟨q0, q1, b0, b1, Below.drew (Below.refl _ _)⟩ (fun hHeld => ?_)
            refine wpAnyH_take (i := 0) (oi := ⟨some 10, _, _, _, _, _⟩) (v := ?_) rfl (by kernel_rfl) (by kernel_rfl) (by kernel_rfl) (fun _ _ _ h => h) (Or.inl ⟨by rfl, ?_⟩) (by assumption) ?_
            rotate_left 1
            · intro w hSw; (try dsimp only at hSw); go_simp; try (with_reducible rfl)
            try simp only [Act.put, List.setIfInBounds_toArray, List.set_cons_zero, List.set_cons_succ]
            refine wpAnyH_take (i := 1) (oi := ⟨some 11, _, _, _, _, _⟩) (v := ?_) rfl (by kernel_rfl) (by kernel_rfl) (by kernel_rfl) (fun _ _ _ h => h) (Or.inl ⟨by rfl, ?_⟩) (by assumption) ?_
            rotate_left 1
            · intro w hSw; (try dsimp only at hSw); go_simp; try (with_reducible rfl)
            try simp only [Act.put, List.setIfInBounds_toArray, List.set_cons_zero, List.set_cons_succ]
            refine wpAnyH_take (i := 2) (oi := ⟨some 12, _, _, _, _, _⟩) (v := ?_) rfl (by kernel_rfl) (by kernel_rfl) (by kernel_rfl) (fun _ _ _ h => h) (Or.inl ⟨by rfl, ?_⟩) (by assumption) ?_
            rotate_left 1
            · intro w hSw; (try dsimp only at hSw); go_simp; try (with_reducible rfl)
            try simp only [Act.put, List.setIfInBounds_toArray, List.set_cons_zero, List.set_cons_succ]
            refine wpAnyH_take (i := 3) (oi := ⟨some 13, _, _, _, _, _⟩) (v := ?_) rfl (by kernel_rfl) (by kernel_rfl) (by kernel_rfl) (fun _ _ _ h => h) (Or.inl ⟨by rfl, ?_⟩) (by assumption) ?_
            rotate_left 1
            · intro w hSw; (try dsimp only at hSw); go_simp; try (with_reducible rfl)
            try simp only [Act.put, List.setIfInBounds_toArray, List.set_cons_zero, List.set_cons_succ]
            refine wpAnyH_ready (rs := [4]) (by kernel_rfl) (by simp) ?_
            refine AllReadyH.cons (o := ⟨some 14, _, _, _, _, _⟩) rfl (fun K hK => ?_) AllReadyH.nil
            go_simp
            refine (sv _).mono ?_
            rintro e w2 ⟨rfl, hb⟩
            go_wp2_with fail
            refine hK.out _ _ ?_ (fun hHeld2 => ?_)
            · exact ⟨cell_later hb hHeld.1, cell_later hb hHeld.2.1, cell_later hb hHeld.2.2.1, cell_later hb hHeld.2.2.2.1, hHeld.2.2.2.2.trans (hb.mono hHeld.2.2.2.2.size)⟩
            clear hK K hHeld hb
            have hHeld := hHeld2
            clear hHeld2
            try simp only [Act.put, List.setIfInBounds_toArray, List.set_cons_zero, List.set_cons_succ]
            refine wpAnyH_take (i := 5) (oi := ⟨some 15, _, _, _, _, _⟩) (v := ?_) rfl (by kernel_rfl) (by kernel_rfl) (by kernel_rfl) (fun _ _ _ h => h) (Or.inl ⟨by rfl, ?_⟩) (by assumption) ?_
            rotate_left 1
            · intro w hSw; (try dsimp only at hSw); go_simp; try (with_reducible rfl)
            try simp only [Act.put, List.setIfInBounds_toArray, List.set_cons_zero, List.set_cons_succ]
            refine wpAnyH_take (i := 6) (oi := ⟨some 16, _, _, _, _, _⟩) (v := ?_) rfl (by kernel_rfl) (by kernel_rfl) (by kernel_rfl) (fun _ _ _ h => h) (Or.inl ⟨by rfl, ?_⟩) (by assumption) ?_
            rotate_left 1
            · intro w hSw; (try dsimp only at hSw); go_simp; try (with_reducible rfl)
            try simp only [Act.put, List.setIfInBounds_toArray, List.set_cons_zero, List.set_cons_succ]
            refine wpAnyH_take (i := 7) (oi := ⟨some 17, _, _, _, _, _⟩) (v := ?_) rfl (by kernel_rfl) (by kernel_rfl) (by kernel_rfl) (fun _ _ _ h => h) (Or.inl ⟨by rfl, ?_⟩) (by assumption) ?_
            rotate_left 1
            · intro w hSw; (try dsimp only at hSw); go_simp; try (with_reducible rfl)
            try simp only [Act.put, List.setIfInBounds_toArray, List.set_cons_zero, List.set_cons_succ]
            refine wpAnyH_take (i := 8) (oi := ⟨some 18, _, _, _, _, _⟩) (v := ?_) rfl (by kernel_rfl) (by kernel_rfl) (by kernel_rfl) (fun _ _ _ h => h) (Or.inl ⟨by rfl, ?_⟩) (by assumption) ?_
            rotate_left 1
            · intro w hSw; (try dsimp only at hSw); go_simp; try (with_reducible rfl)
            try simp only [Act.put, List.setIfInBounds_toArray, List.set_cons_zero, List.set_cons_succ]
            refine wpAnyH_take (i := 9) (oi := ⟨some 19, _, _, _, _, _⟩) (v := ?_) rfl (by kernel_rfl) (by kernel_rfl) (by kernel_rfl) (fun _ _ _ h => h) (Or.inl ⟨by rfl, ?_⟩) (by assumption) ?_
            rotate_left 1
            · intro w hSw; (try dsimp only at hSw); go_simp; try (with_reducible rfl)
            try simp only [Act.put, List.setIfInBounds_toArray, List.set_cons_zero, List.set_cons_succ]
            refine wpAnyH_take (i := 10) (oi := ⟨some 20, _, _, _, _, _⟩) (v := ?_) rfl (by kernel_rfl) (by kernel_rfl) (by kernel_rfl) (fun _ _ _ h => h) (Or.inl ⟨by rfl, ?_⟩) (by assumption) ?_
            rotate_left 1
            · intro w hSw; (try dsimp only at hSw); go_simp; try (with_reducible rfl)
            try simp only [Act.put, List.setIfInBounds_toArray, List.set_cons_zero, List.set_cons_succ]
            refine wpAnyH_take (i := 11) (oi := ⟨some 21, _, _, _, _, _⟩) (v := ?_) rfl (by kernel_rfl) (by kernel_rfl) (by kernel_rfl) (fun _ _ _ h => h) (Or.inl ⟨by rfl, ?_⟩) (by assumption) ?_
            rotate_left 1
            · intro w hSw; (try dsimp only at hSw); go_simp; try (with_reducible rfl)
            try simp only [Act.put, List.setIfInBounds_toArray, List.set_cons_zero, List.set_cons_succ]
            refine wpAnyH_take (i := 12) (oi := ⟨some 22, _, _, _, _, _⟩) (v := ?_) rfl (by kernel_rfl) (by kernel_rfl) (by kernel_rfl) (fun _ _ _ h => h) (Or.inl ⟨by rfl, ?_⟩) (by assumption) ?_
            rotate_left 1
            · intro w hSw; (try dsimp only at hSw); go_simp; try (with_reducible rfl)
            try simp only [Act.put, List.setIfInBounds_toArray, List.set_cons_zero, List.set_cons_succ]
            refine wpAnyH_take (i := 13) (oi := ⟨some 23, _, _, _, _, _⟩) (v := ?_) rfl (by kernel_rfl) (by kernel_rfl) (by kernel_rfl) (fun _ _ _ h => h) (Or.inl ⟨by rfl, ?_⟩) (by assumption) ?_
            rotate_left 1
            · intro w hSw; (try dsimp only at hSw); go_simp; try (with_reducible rfl)
            try simp only [Act.put, List.setIfInBounds_toArray, List.set_cons_zero, List.set_cons_succ]
            refine wpAnyH_take (i := 14) (oi := ⟨some 24, _, _, _, _, _⟩) (v := ?_) rfl (by kernel_rfl) (by kernel_rfl) (by kernel_rfl) (fun _ _ _ h => h) (Or.inl ⟨by rfl, ?_⟩) (by assumption) ?_
            rotate_left 1
            · intro w hSw; (try dsimp only at hSw); go_simp; try (with_reducible rfl)
            try simp only [Act.put, List.setIfInBounds_toArray, List.set_cons_zero, List.set_cons_succ]
            refine wpAnyH_take (i := 15) (oi := ⟨some 25, _, _, _, _, _⟩) (v := ?_) rfl (by kernel_rfl) (by kernel_rfl) (by kernel_rfl) (fun _ _ _ h => h) (Or.inl ⟨by rfl, ?_⟩) (by assumption) ?_
            rotate_left 1
            · intro w hSw; (try dsimp only at hSw); go_simp; try (with_reducible rfl)
            try simp only [Act.put, List.setIfInBounds_toArray, List.set_cons_zero, List.set_cons_succ]
            refine wpAnyH_take (i := 16) (oi := ⟨some 26, _, _, _, _, _⟩) (v := ?_) rfl (by kernel_rfl) (by kernel_rfl) (by kernel_rfl) (fun _ _ _ h => h) (Or.inl ⟨by rfl, ?_⟩) (by assumption) ?_
            rotate_left 1
            · intro w hSw; (try dsimp only at hSw); go_simp; try (with_reducible rfl)
            try simp only [Act.put, List.setIfInBounds_toArray, List.set_cons_zero, List.set_cons_succ]
            refine wpAnyH_take (i := 17) (oi := ⟨some 27, _, _, _, _, _⟩) (v := ?_) rfl (by kernel_rfl) (by kernel_rfl) (by kernel_rfl) (fun _ _ _ h => h) (Or.inl ⟨by rfl, ?_⟩) (by assumption) ?_
            rotate_left 1
            · intro w hSw; (try dsimp only at hSw); go_simp; try (with_reducible rfl)
            try simp only [Act.put, List.setIfInBounds_toArray, List.set_cons_zero, List.set_cons_succ]
            refine wpAnyH_take (i := 18) (oi := ⟨some 28, _, _, _, _, _⟩) (v := ?_) rfl (by kernel_rfl) (by kernel_rfl) (by kernel_rfl) (fun _ _ _ h => h) (Or.inl ⟨by rfl, ?_⟩) (by assumption) ?_
            rotate_left 1
            · intro w hSw; (try dsimp only at hSw); go_simp; try (with_reducible rfl)
            try simp only [Act.put, List.setIfInBounds_toArray, List.set_cons_zero, List.set_cons_succ]
            refine wpAnyH_ready (rs := [19]) (by kernel_rfl) (by simp) ?_
            refine AllReadyH.cons (o := ⟨some 29, _, _, _, _, _⟩) rfl (fun K hK => ?_) AllReadyH.nil
            go_simp
            refine (sc _).mono ?_
            rintro e w3 ⟨rfl, hb⟩
            go_wp2_with fail
            refine hK.out _ _ ?_ (fun hHeld2 => ?_)
            · exact ⟨cell_later hb hHeld.1, cell_later hb hHeld.2.1, cell_later hb hHeld.2.2.1, cell_later hb hHeld.2.2.2.1, hHeld.2.2.2.2.trans (hb.mono hHeld.2.2.2.2.size)⟩
            clear hK K hHeld hb
            have hHeld := hHeld2
            clear hHeld2
            try simp only [Act.put, List.setIfInBounds_toArray, List.set_cons_zero, List.set_cons_succ]
            refine wpAnyH_take (i := 20) (oi := ⟨some 30, _, _, _, _, _⟩) (v := ?_) rfl (by kernel_rfl) (by kernel_rfl) (by kernel_rfl) (fun _ _ _ h => h) (Or.inl ⟨by rfl, ?_⟩) (by assumption) ?_
            rotate_left 1
            · intro w hSw; (try dsimp only at hSw); go_simp; try (with_reducible rfl)
            try simp only [Act.put, List.setIfInBounds_toArray, List.set_cons_zero, List.set_cons_succ]
            refine wpAnyH_take (i := 21) (oi := ⟨some 31, _, _, _, _, _⟩) (v := ?_) rfl (by kernel_rfl) (by kernel_rfl) (by kernel_rfl) (fun _ _ _ h => h) (Or.inl ⟨by rfl, ?_⟩) (by assumption) ?_
            rotate_left 1
            · intro w hSw; (try dsimp only at hSw); go_simp; try (with_reducible rfl)
            try simp only [Act.put, List.setIfInBounds_toArray, List.set_cons_zero, List.set_cons_succ]
            refine wpAnyH_take (i := 22) (oi := ⟨some 32, _, _, _, _, _⟩) (v := ?_) rfl (by kernel_rfl) (by kernel_rfl) (by kernel_rfl) (fun _ _ _ h => h) (Or.inl ⟨by rfl, ?_⟩) (by assumption) ?_
            rotate_left 1
            · intro w hSw; (try dsimp only at hSw); go_simp; try (with_reducible rfl)
            try simp only [Act.put, List.setIfInBounds_toArray, List.set_cons_zero, List.set_cons_succ]
            refine wpAnyH_done (by kernel_rfl) ?_ _
            try simp only [Act.put, List.setIfInBounds_toArray, List.set_cons_zero, List.set_cons_succ]
            have D2 := Lib.hid (bstep hnx.out hHeld.2.2.2.2)
            clear hHeld
            go_wp2_with fail
            go_roundw
            case rel => exact ⟨j + 1 + 1, by omega, by go_num, hok', hadj', D2.out⟩
            case measure => simp [intOf]; omega
    · obtain rfl : k = n := by omega
      have hR := srt_eq hn.out (all_okL (fun j hj => hok.out j (by rw [← hn.out]; exact hj))) (asc_adj (fun j hj => hadj.out j (by rw [← hn.out]; exact hj)))
      rw [hqs.out] at hR
      have hR := Lib.hid hR
      have hnx := Lib.hid hnx
      clear h hok hadj
      go_wp2_with fail
      go_ret
      exact ⟨ret_bool (by rw [hR.out]; exact decide_eq_decide.2 (by omega)), hnx.out⟩

theorem sval_nil (a : Option Addr) (ca : Nat) (w : World) :
    Calls Tryd.prog 23 #[.slice a 0 ca] w fun e w' => e = .returned (.bool (srtB [])) ∧ Below w.heap.size w w' := by
  rw [show srtB [] = true by decide]
  go_enter Tryd.func23, Tryd.ntmps23
  go_wp2_with fail
  refine wp_loop_rounds 1 ?_
  rw [rounds_succ]
  go_wp2_with fail
  go_ret
  exact ⟨rfl, Below.refl _ _⟩

theorem sval_any (u : Value) (L : List Pid) (w : World) (h : Ids w u L) :
    Calls Tryd.prog 23 #[u] w fun e w' => e = .returned (.bool (srtB L)) ∧ Below w.heap.size w w' := by
  obtain ⟨a, cap, rfl, h1, h2, h3⟩ := h
  rcases h3 with h3 | ⟨b, off, rfl, h4, h5⟩
  · obtain rfl : L = [] := List.length_eq_zero_iff.1 h3
    exact sval_nil a cap w
  · exact sval_at b off cap L w h4 h2 h5
end Go.Proofs.YtigaepbhbfpijaaDoor

/- Plain facts: a set's ids in order. -/
namespace Go.Proofs.YtigaepbhbfpijaaDoor
set_option linter.unusedVariables false

/-- The ids of a replica whose bits are m. -/
def bitsL (r m : Nat) : List Pid := (nums m).map fun n : Nat => ((r : Int), (n : Int))
/-- .. of the replicas from r on. -/
def idsFrom (f : Nat → Nat) : Nat → Nat → List Pid
  | _, 0 => []
  | r, k + 1 => bitsL r (f r) ++ idsFrom f (r + 1) k
def idsO (f : Nat → Nat) : List Pid := idsFrom f 0 5
theorem bitsL_len (r m : Nat) : (bitsL r m).length = pc 64 m := by unfold bitsL; rw [List.length_map, nums_len]
theorem bitsL_zero (r : Nat) : bitsL r 0 = [] := by unfold bitsL; rw [nums_zero]; rfl
theorem mem_bitsL {r m : Nat} {x : Pid} : x ∈ bitsL r m ↔ ∃ n : Nat, x = ((r : Int), (n : Int)) ∧ n < 64 ∧ m.testBit n = true := by
  unfold bitsL
  rw [List.mem_map]
  constructor
  · rintro ⟨n, h, rfl⟩; exact ⟨n, rfl, mem_nums.1 h⟩
  · rintro ⟨n, rfl, h⟩; exact ⟨n, mem_nums.2 h, rfl⟩
theorem bitsL_asc (r m : Nat) : Asc (bitsL r m) := by
  unfold bitsL Asc
  rw [List.pairwise_map]
  refine List.Pairwise.imp (R := (· < ·)) (fun {a b} h => ?_) (nums_asc m)
  have h' : a < b := h
  exact ltP_iff.2 (.inr ⟨rfl, by show (a : Int) < (b : Int); omega⟩)
theorem mem_from {f : Nat → Nat} {x : Pid} : ∀ {k r : Nat}, x ∈ idsFrom f r k ↔ ∃ r' n : Nat, x = ((r' : Int), (n : Int)) ∧ r ≤ r' ∧ r' < r + k ∧ n < 64 ∧ (f r').testBit n = true
  | 0, r => by simp [idsFrom]; intros; omega
  | k + 1, r => by
    rw [idsFrom, List.mem_append, mem_bitsL, mem_from]
    constructor
    · rintro (⟨n, rfl, h⟩ | ⟨r', n, rfl, h1, h2, h⟩)
      · exact ⟨r, n, rfl, Nat.le_refl _, by omega, h⟩
      · exact ⟨r', n, rfl, by omega, by omega, h⟩
    · rintro ⟨r', n, rfl, h1, h2, h⟩
      by_cases e : r' = r
      · subst e; exact .inl ⟨n, rfl, h⟩
      · exact .inr ⟨r', n, rfl, by omega, by omega, h⟩
theorem from_asc {f : Nat → Nat} : ∀ (k r : Nat), Asc (idsFrom f r k)
  | 0, r => asc_nil
  | k + 1, r => by
    rw [idsFrom]
    refine List.pairwise_append.2 ⟨bitsL_asc _ _, from_asc k (r + 1), fun x hx y hy => ?_⟩
    obtain ⟨n, rfl, _⟩ := mem_bitsL.1 hx
    obtain ⟨r', n', rfl, h1, _⟩ := mem_from.1 hy
    rw [ltP_iff]; simp; omega
theorem mem_idsO {f : Nat → Nat} {x : Pid} : x ∈ idsO f ↔ ∃ r n : Nat, x = ((r : Int), (n : Int)) ∧ r < 5 ∧ n < 64 ∧ (f r).testBit n = true := by
  unfold idsO
  rw [mem_from]
  constructor
  · rintro ⟨r, n, rfl, _, h2, h⟩; exact ⟨r, n, rfl, by omega, h⟩
  · rintro ⟨r, n, rfl, h2, h⟩; exact ⟨r, n, rfl, by omega, by omega, h⟩
theorem idsO_asc (f : Nat → Nat) : Asc (idsO f) := from_asc 5 0
def manyN (f : Nat → Nat) : Nat := pc 64 (f 0) + pc 64 (f 1) + pc 64 (f 2) + pc 64 (f 3) + pc 64 (f 4)
theorem idsO_len (f : Nat → Nat) : (idsO f).length = manyN f := by
  simp only [idsO, idsFrom, List.length_append, bitsL_len, List.length_nil, manyN, Nat.zero_add, Nat.reduceAdd]; omega
theorem manyN_le (f : Nat → Nat) : manyN f ≤ 320 := by
  unfold manyN
  have h0 := pc_le 64 (f 0); have h1 := pc_le 64 (f 1); have h2 := pc_le 64 (f 2); have h3 := pc_le 64 (f 3); have h4 := pc_le 64 (f 4)
  omega
/-- The lowest bit comes first. -/
theorem bitsL_cons {r m : Nat} (h0 : m ≠ 0) (h : m < 18446744073709551616) : bitsL r m = ((r : Int), ((Lib.ctz 64 m : Nat) : Int)) :: bitsL r (m &&& (m - 1)) := by
  obtain ⟨hk, ht, hlo, hcl⟩ := low_bit h0 h
  refine asc_ext (bitsL_asc r m) (List.pairwise_cons.2 ⟨fun x hx => ?_, bitsL_asc _ _⟩) (fun x => ?_)
  · obtain ⟨n, rfl, hn, hb⟩ := mem_bitsL.1 hx
    rw [hcl, Bool.and_eq_true, decide_eq_true_iff] at hb
    rw [ltP_iff]
    have : ¬ n < Lib.ctz 64 m := fun e => by rw [hlo n e] at hb; cases hb.1
    refine .inr ⟨rfl, ?_⟩
    have := hb.2
    show ((Lib.ctz 64 m : Nat) : Int) < (n : Int)
    omega
  · rw [List.mem_cons, mem_bitsL, mem_bitsL]
    constructor
    · rintro ⟨n, rfl, hn, hb⟩
      by_cases e : n = Lib.ctz 64 m
      · subst e; exact .inl rfl
      · exact .inr ⟨n, rfl, hn, by rw [hcl, hb, decide_eq_true e]; rfl⟩
    · rintro (rfl | ⟨n, rfl, hn, hb⟩)
      · exact ⟨_, rfl, hk, ht⟩
      · rw [hcl, Bool.and_eq_true] at hb
        exact ⟨n, rfl, hn, hb.1⟩

/-- A set of sorted ids has just these. -/
theorem idsO_mask {L : List Pid} (h : srtB L = true) : idsO (mask L) = L := by
  obtain ⟨h1, h2, h3⟩ := srt_of h
  refine asc_ext (idsO_asc _) h3 (fun x => ?_)
  rw [mem_idsO]
  constructor
  · rintro ⟨r, n, rfl, hr, hn, hb⟩; exact (mask_bit h2 r n).1 hb
  · intro hx
    obtain ⟨r, n, rfl, hr, hn, hn2⟩ := id_nat (List.all_eq_true.1 h2 x hx)
    exact ⟨r, n, rfl, hr, by omega, (mask_bit h2 r n).2 hx⟩

/-- Both lists joined. -/
def joinP (a b : List Pid) : List Pid := b.foldl putP a
theorem joinP_asc {a b : List Pid} (ha : Asc a) : Asc (joinP a b) := foldl_asc b ha
theorem joinP_mem {a b : List Pid} {x : Pid} : x ∈ joinP a b ↔ x ∈ a ∨ x ∈ b := foldl_mem b a x
theorem joinP_take {a b : List Pid} {k : Nat} (hk : k < b.length) : joinP a (b.take (k + 1)) = putP (joinP a (b.take k)) (b.getD k nop) := by
  rw [take_next hk]; unfold joinP; rw [List.foldl_append]; rfl
theorem joinP_len (a b : List Pid) : (joinP a b).length ≤ a.length + b.length := (foldl_len b a).2
/-- What DepsJoin answers. -/
def joinR (a b : List Pid) : List Pid × Bool := if srtB a = true ∧ srtB b = true ∧ (joinP a b).length ≤ 12 then (joinP a b, true) else ([], false)
theorem joinR_t {a b : List Pid} (h1 : srtB a = true) (h2 : srtB b = true) (h3 : (joinP a b).length ≤ 12) : joinR a b = (joinP a b, true) := if_pos ⟨h1, h2, h3⟩
theorem joinR_1 {a b : List Pid} (h : srtB a = false) : joinR a b = ([], false) := if_neg fun x => by rw [h] at x; cases x.1
theorem joinR_2 {a b : List Pid} (h : srtB b = false) : joinR a b = ([], false) := if_neg fun x => by rw [h] at x; cases x.2.1
theorem joinR_3 {a b : List Pid} (h : ¬ (joinP a b).length ≤ 12) : joinR a b = ([], false) := if_neg fun x => h x.2.2
theorem idsO_join {a b : List Pid} (ha : srtB a = true) (hb : srtB b = true) : idsO (fun r => setF a r ||| setF b r) = joinP a b := by
  rw [setF_t ha, setF_t hb]
  obtain ⟨a1, a2, a3⟩ := srt_of ha
  obtain ⟨b1, b2, b3⟩ := srt_of hb
  refine asc_ext (idsO_asc _) (joinP_asc a3) (fun x => ?_)
  rw [mem_idsO, joinP_mem]
  constructor
  · rintro ⟨r, n, rfl, hr, hn, hb⟩
    rw [Nat.testBit_or, Bool.or_eq_true, mask_bit a2, mask_bit b2] at hb
    exact hb
  · intro hx
    obtain ⟨r, n, rfl, hr, hn, hn2⟩ := id_nat (x := x) (by rcases hx with h | h; exact List.all_eq_true.1 a2 x h; exact List.all_eq_true.1 b2 x h)
    exact ⟨r, n, rfl, hr, by omega, by rw [Nat.testBit_or, Bool.or_eq_true, mask_bit a2, mask_bit b2]; exact hx⟩
end Go.Proofs.YtigaepbhbfpijaaDoor

/- The model's l3Has. -/
namespace Go.Proofs.YtigaepbhbfpijaaDoor
open Go.RowKit
set_option linter.unusedVariables false

theorem has_t {L : List Pid} {k : Nat} {a : Pid} (hk : k < L.length) (h : L.getD k nop = a) : hasP L a = true := by
  unfold hasP
  rw [decide_eq_true_iff, ← h, List.getD_eq_getElem?_getD, List.getElem?_eq_getElem hk]
  exact List.getElem_mem _
theorem has_f {L : List Pid} {a : Pid} (h : ∀ j, j < L.length → ¬ L.getD j nop = a) : hasP L a = false := by
  unfold hasP
  rw [decide_eq_false_iff_not]
  intro hm
  obtain ⟨i, hi, e⟩ := List.getElem_of_mem hm
  refine h i hi ?_
  rw [List.getD_eq_getElem?_getD, List.getElem?_eq_getElem hi]
  exact e
theorem pid_eq {c : Pid} {x y : Int} : c = (x, y) ↔ c.1 = x ∧ c.2 = y := by
  obtain ⟨p, q⟩ := c
  simp

set_option maxRecDepth 100000 in
set_option maxHeartbeats 2000000 in
theorem shas_at (b off ca : Nat) (L : List Pid) (x y : Int) (w : World) (hb : b < w.heap.size) (hm : L.length ≤ 2000000) (h : ∀ i, i < L.length → w.cell? ⟨b, off + i * 2, none⟩ = some (.int .i64 (L.getD i nop).1) ∧ w.cell? ⟨b, off + i * 2 + 1, none⟩ = some (.int .i64 (L.getD i nop).2)) :
    Calls Tryd.prog 38 #[.slice (some ⟨b, off, none⟩) L.length ca, .agg #[.int .i64 x, .int .i64 y]] w fun e w' => e = .returned (.bool (hasP L (x, y))) ∧ Below w.heap.size w w' := by
  have h := Lib.hid h
  obtain ⟨n, hn⟩ : ∃ n, Hid (L.length = n) := ⟨_, Lib.hid rfl⟩
  obtain ⟨q, hq⟩ : ∃ q, Hid (hasP L (x, y) = q) := ⟨_, Lib.hid rfl⟩
  rw [hn.out] at hm ⊢
  rw [hq.out]
  go_enter Tryd.func38, Tryd.ntmps38
  go_wp2_with fail
  go_loopw [5] (fun i wr => ∃ k : Nat, k ≤ n ∧ i = .int .i64 k ∧ Hid (∀ j, j < k → ¬ L.getD j nop = (x, y)) ∧ wr.cell? ⟨w.heap.size, 0, none⟩ = some (.int .i64 x) ∧ wr.cell? ⟨w.heap.size, 1, none⟩ = some (.int .i64 y) ∧ Below w.heap.size w wr) (fun i _ => n - (intOf i).toNat)
  case atStart => exact ⟨0, Nat.zero_le _, rfl, Lib.hid (fun j hj => absurd hj (Nat.not_lt_zero _)), by go_simp, by go_simp, (Below.refl _ _).alloc (Nat.le_refl _) _⟩
  case round =>
    obtain ⟨k, hk, rfl, hno, x0, x1, hnx⟩ := hrel
    by_cases hlt : k < n
    · obtain ⟨h0, h1⟩ := h.out k (by rw [hn.out]; exact hlt)
      have q0 := (hnx.cell (p := ⟨b, off + k * 2, none⟩) hb).trans h0
      have q1 := (hnx.cell (p := ⟨b, off + k * 2 + 1, none⟩) hb).trans h1
      clear h0 h1
      obtain ⟨c, hc⟩ : ∃ c, Hid (L.getD k nop = c) := ⟨_, Lib.hid rfl⟩
      rw [hc.out] at q0 q1
      obtain ⟨p, r⟩ := c
      dsimp only at q0 q1
      have hnx := Lib.hid hnx
      clear h
      by_cases e1 : p = x
      · subst e1
        by_cases e2 : r = y
        · subst e2
          have hqt := hq.out
          rw [has_t (by rw [hn.out]; exact hlt) hc.out] at hqt
          subst hqt
          go_wp2_with fail
          go_quiet (fail)
          go_wp2_with fail
          go_ret
          exact ⟨rfl, bdrewN hnx.out _⟩
        · have R := Lib.hid (up_to hno.out (show ¬ L.getD k nop = (p, y) by rw [hc.out]; intro e; exact e2 (congrArg Prod.snd e)))
          go_wp2_with fail
          go_quiet (fail)
          go_wp2_with fail
          go_roundw
          case rel => exact ⟨k + 1, by omega, by go_num, R, by go_simp, by go_simp, bdrewN hnx.out _⟩
          case measure => simp [intOf]; omega
      · have R := Lib.hid (up_to hno.out (show ¬ L.getD k nop = (x, y) by rw [hc.out]; intro e; exact e1 (congrArg Prod.fst e)))
        go_wp2_with fail
        go_quiet (fail)
        go_wp2_with fail
        go_roundw
        case rel => exact ⟨k + 1, by omega, by go_num, R, by go_simp, by go_simp, bdrewN hnx.out _⟩
        case measure => simp [intOf]; omega
    · obtain rfl : k = n := by omega
      have hqf := hq.out
      rw [has_f (fun j hj => hno.out j (by rw [← hn.out]; exact hj))] at hqf
      subst hqf
      have hnx := Lib.hid hnx
      clear h
      go_wp2_with fail
      go_ret
      exact ⟨rfl, hnx.out⟩

theorem shas_nil (a : Option Addr) (ca : Nat) (x y : Int) (w : World) :
    Calls Tryd.prog 38 #[.slice a 0 ca, .agg #[.int .i64 x, .int .i64 y]] w fun e w' => e = .returned (.bool (hasP [] (x, y))) ∧ Below w.heap.size w w' := by
  rw [show hasP [] (x, y) = false from rfl]
  go_enter Tryd.func38, Tryd.ntmps38
  go_wp2_with fail
  refine wp_loop_rounds 1 ?_
  rw [rounds_succ]
  go_wp2_with fail
  go_ret
  exact ⟨rfl, (Below.refl _ _).alloc (Nat.le_refl _) _⟩

theorem shas_any (u : Value) (L : List Pid) (x y : Int) (w : World) (h : Ids w u L) :
    Calls Tryd.prog 38 #[u, .agg #[.int .i64 x, .int .i64 y]] w fun e w' => e = .returned (.bool (hasP L (x, y))) ∧ Below w.heap.size w w' := by
  obtain ⟨a, cap, rfl, h1, h2, h3⟩ := h
  rcases h3 with h3 | ⟨b, off, rfl, h4, h5⟩
  · obtain rfl : L = [] := List.length_eq_zero_iff.1 h3
    exact shas_nil a cap x y w
  · exact shas_at b off cap L x y w h4 h2 h5
end Go.Proofs.YtigaepbhbfpijaaDoor

/- The model's l3Put. -/
namespace Go.Proofs.YtigaepbhbfpijaaDoor
open Go.RowKit
set_option linter.unusedVariables false

theorem infoP : (Tryd.prog.info? 31).map (fun i => (i.zero, i.size, i.bytes)) = some (some (.agg #[.int .i64 0, .int .i64 0]), 2, 16) := by kernel_rfl

/-- A slice of ids that is being built: in memory from B on, in a block of its own. -/
def Row (w : World) (B : Nat) (v : Value) (O : List Pid) : Prop := w.ownsRow B 31 2 v O.length (flatP O) ∧ v ≠ .slice none 0 0

theorem row_new (w : World) (B : Nat) (hB : B ≤ w.heap.size) : Row (w.alloc (.cells #[] 31)) B (.slice (some ⟨w.heap.size, 0, none⟩) 0 0) [] :=
  ⟨World.ownsRow_made _ #[] 0 hB (Nat.zero_le _) rfl, by simp⟩
theorem Row.shape {w : World} {B : Nat} {v : Value} {O : List Pid} (h : Row w B v O) : ∃ g cap, v = .slice (some ⟨g, 0, none⟩) O.length cap ∧ B ≤ g ∧ g < w.heap.size ∧ O.length ≤ cap ∧ cap ≤ maxLen := by
  rcases h.1.2 with ⟨rfl, _⟩ | ⟨g, cap, cur, rfl, h1, h2, h3, h4, h5, h6⟩
  · exact absurd rfl h.2
  · exact ⟨g, cap, rfl, h1, lt_of_heap h2, h3, h4⟩
theorem Row.own {w : World} {B : Nat} {v : Value} {O : List Pid} (h : Row w B v O) (hl : O.length ≤ 2000000) : ∃ b, B ≤ b ∧ OwnP w b v O := OwnP.of_row h.1 rfl hl h.2
/-- Other memory may turn. -/
theorem Row.up {w w' : World} {B : Nat} {v : Value} {O : List Pid} (h : Row w B v O) (hb : Below w.heap.size w w') : Row w' B v O := by
  refine ⟨?_, h.2⟩
  refine ⟨h.1.1, ?_⟩
  rcases h.1.2 with h1 | ⟨g, cap, cur, e, h1, h2, h3⟩
  · exact .inl h1
  · exact .inr ⟨g, cap, cur, e, h1, (hb.block g (lt_of_heap h2)).trans h2, h3⟩
theorem Row.put {w w' : World} {B : Nat} {v v' : Value} {O : List Pid} {x y : Int} (h : Row w B v O) (hown : w'.ownsRow B 31 2 v' (O.length + 1) (flatP O ++ [.int .i64 x, .int .i64 y])) (hn : v' ≠ .slice none 0 0) : Row w' B v' (O ++ [(x, y)]) :=
  ⟨by rw [flatP_app]; simpa [flatP, idv] using hown, hn⟩
/-- What an append leaves of elder memory. -/
theorem grown_below {w w' : World} {B : Nat} {v : Value} {O : List Pid} (h : Row w B v O) (hg : w.grownBy w' (Value.ownBlock v)) (hB : B ≤ w.heap.size) : Below B w w' := by
  obtain ⟨g, cap, rfl, h1, _⟩ := h.shape
  exact ⟨hg.os, hg.tape, hg.output, hg.size, fun k hk => hg.block k (by omega) (fun e => by simp [Value.ownBlock] at e; omega)⟩

/-- What is left of l3Put's loop. -/
theorem put_in {O L : List Pid} {a x : Pid} {k : Nat} (hk : k < L.length) (hx : L.getD k nop = x) (h : O ++ putF true a (L.drop k) = putP L a) : (O ++ [x]) ++ putF true a (L.drop (k + 1)) = putP L a := by
  rw [← h, drop_next hk, hx]; simp [putF]
theorem put_miss {O L : List Pid} {a x : Pid} {k : Nat} (hk : k < L.length) (hx : L.getD k nop = x) (hl : ltP a x = false) (h : O ++ putF false a (L.drop k) = putP L a) : (O ++ [x]) ++ putF false a (L.drop (k + 1)) = putP L a := by
  rw [← h, drop_next hk, hx, putF_miss hl]; simp
theorem put_hit {O L : List Pid} {a x : Pid} {k : Nat} (hk : k < L.length) (hx : L.getD k nop = x) (hl : ltP a x = true) (h : O ++ putF false a (L.drop k) = putP L a) : (O ++ [a] ++ [x]) ++ putF true a (L.drop (k + 1)) = putP L a := by
  rw [← h, drop_next hk, hx, putF_hit hl]; simp
theorem put_len {O L : List Pid} {a : Pid} {d : Bool} {k : Nat} (h : O ++ putF d a (L.drop k) = putP L a) : O.length ≤ L.length + 1 := by
  have := congrArg List.length h
  rw [List.length_append] at this
  have := (len_putP L a).2
  omega

theorem two_cells (w : World) (t : TypeId) (x y : Value) (n : Nat) (hn : n = w.heap.size) : ∀ j u, [x, y][j]? = some u → (w.alloc (.cells #[x, y] t)).cell? ((⟨n, 0, none⟩ : Addr).add j) = some u := by
  subst hn
  intro j u hj
  match j, hj with
  | 0, hj => simp at hj; subst hj; simp [Addr.add]
  | 1, hj => simp at hj; subst hj; simp [Addr.add]
  | j + 2, hj => simp at hj

theorem put_mid {w wc w4 : World} {v v' : Value} {O : List Pid} {x y p r : Int} {o : Obj} (D : Below w.heap.size w wc) (hA : wc.heap[w.heap.size]? = some (.cells #[.int .i64 x, .int .i64 y] 31 (0, 0))) (hR : Row wc (w.heap.size + 1) v O)
    (hown : w4.ownsRow (w.heap.size + 1) 31 2 v' (O.length + 1) (flatP O ++ [.int .i64 p, .int .i64 r])) (hg : (wc.alloc o).grownBy w4 (Value.ownBlock v)) (hn : v' ≠ .slice none 0 0) :
    Row w4 (w.heap.size + 1) v' (O ++ [(p, r)]) ∧ w4.heap[w.heap.size]? = some (.cells #[.int .i64 x, .int .i64 y] 31 (0, 0)) ∧ Below w.heap.size w w4 := by
  have hR1 : Row (wc.alloc o) (w.heap.size + 1) v O := hR.up ((Below.refl _ _).alloc (Nat.le_refl _) _)
  have hs := lt_of_heap hA
  have B4 := grown_below hR1 hg (by simp; omega)
  exact ⟨hR.put hown hn, (B4.block w.heap.size (by omega)).trans ((Below.heap_alloc _ _ _ hs).trans hA), (D.alloc D.size _).trans (B4.mono (by omega))⟩

/-- What l3Put leaves. -/
def PutPost (L : List Pid) (a : Pid) (w : World) (e : Ending) (w' : World) : Prop :=
  ∃ b u, w.heap.size ≤ b ∧ e = .returned u ∧ OwnP w' b u (putP L a) ∧ Below w.heap.size w w'

/-- The loop's relation: the box of the id lies at w's end. -/
def PutRel (L : List Pid) (x y : Int) (w : World) (k : Nat) (v : Value) (d : Bool) (wr : World) : Prop :=
  ∃ O : List Pid, Row wr (w.heap.size + 1) v O ∧ O ++ putF d (x, y) (L.drop k) = putP L (x, y) ∧ wr.heap[w.heap.size]? = some (.cells #[.int .i64 x, .int .i64 y] 31 (0, 0)) ∧ Below w.heap.size w wr

set_option maxRecDepth 100000 in
set_option maxHeartbeats 4000000 in
theorem sput_at (b off ca : Nat) (L : List Pid) (x y : Int) (w : World) (hb : b < w.heap.size) (hm : L.length ≤ 1900000) (h : ∀ i, i < L.length → w.cell? ⟨b, off + i * 2, none⟩ = some (.int .i64 (L.getD i nop).1) ∧ w.cell? ⟨b, off + i * 2 + 1, none⟩ = some (.int .i64 (L.getD i nop).2)) :
    Calls Tryd.prog 51 #[.slice (some ⟨b, off, none⟩) L.length ca, .agg #[.int .i64 x, .int .i64 y]] w (PutPost L (x, y) w) := by
  obtain ⟨i0, hi, hz0, hz1, hz2⟩ := info_parts infoP
  have sh := shas_at b off ca L x y
  have h := Lib.hid h
  obtain ⟨n, hn⟩ : ∃ n, Hid (L.length = n) := ⟨_, Lib.hid rfl⟩
  obtain ⟨d0, hd0⟩ : ∃ q, Hid (hasP L (x, y) = q) := ⟨_, Lib.hid rfl⟩
  rw [hn.out] at hm sh ⊢
  rw [hd0.out] at sh
  have R0 : Hid (Row ((w.alloc (.cells #[.int .i64 x, .int .i64 y] 31)).alloc (.cells #[] 31)) (w.heap.size + 1) (.slice (some ⟨w.heap.size + 1, 0, none⟩) 0 0) []) := Lib.hid (by have := row_new (w.alloc (.cells #[.int .i64 x, .int .i64 y] 31)) (w.heap.size + 1) (by simp); simpa using this)
  go_enter Tryd.func51, Tryd.ntmps51
  go_wp2_with fail
  refine (sh _ (by simp; omega) (by omega) (fun i hi' => ?_)).mono ?_
  · have D0 : Below w.heap.size w ((w.alloc (.cells #[.int .i64 x, .int .i64 y] 31)).alloc (.cells #[] 31)) := ((Below.refl _ _).alloc (Nat.le_refl _) _).alloc (by simp) _
    rw [D0.cell (p := ⟨b, off + i * 2, none⟩) hb, D0.cell (p := ⟨b, off + i * 2 + 1, none⟩) hb]
    exact h.out i (by rw [hn.out]; exact hi')
  rintro e w1 ⟨rfl, hb1⟩
  have R1 : Hid (PutRel L x y w 0 (.slice (some ⟨w.heap.size + 1, 0, none⟩) 0 0) d0 w1) := Lib.hid ⟨[], R0.out.up hb1, by rw [← hd0.out]; rfl, (hb1.block w.heap.size (by simp; omega)).trans ((Below.heap_alloc _ _ _ (by simp)).trans (heap_alloc_new w _)), (((Below.refl _ _).alloc (Nat.le_refl _) _).alloc (by simp) _).trans (hb1.mono (by simp; omega))⟩
  clear R0 hb1 sh hd0
  go_wp2_with fail
  go_loopw [5, 6, 7] (fun v d i wr => ∃ (k : Nat) (q : Bool), k ≤ n ∧ i = .int .i64 k ∧ d = .bool q ∧ PutRel L x y w k v q wr) (fun _ _ i _ => n - (intOf i).toNat)
  case atStart => exact ⟨0, d0, Nat.zero_le _, rfl, rfl, R1.out⟩
  case round =>
    obtain ⟨k, q, hk, rfl, rfl, O, hR, hE, hA, hnx⟩ := hrel
    clear R1
    have hOl := put_len hE
    rw [hn.out] at hOl
    have hR := Lib.hid hR
    have hE := Lib.hid hE
    obtain ⟨x0, x1, _, _⟩ := blk2 hA
    have hs := lt_of_heap hA
    have hA := Lib.hid hA
    by_cases hlt : k < n
    · obtain ⟨h0, h1⟩ := h.out k (by rw [hn.out]; exact hlt)
      have q0 := (hnx.cell (p := ⟨b, off + k * 2, none⟩) hb).trans h0
      have q1 := (hnx.cell (p := ⟨b, off + k * 2 + 1, none⟩) hb).trans h1
      clear h0 h1
      obtain ⟨c, hc⟩ : ∃ c, Hid (L.getD k nop = c) := ⟨_, Lib.hid rfl⟩
      rw [hc.out] at q0 q1
      obtain ⟨p, r⟩ := c
      dsimp only at q0 q1
      have hnx := Lib.hid hnx
      have q00 := Lib.hid (h.out k (by rw [hn.out]; exact hlt)).1
      have q01 := Lib.hid (h.out k (by rw [hn.out]; exact hlt)).2
      rw [hc.out] at q00 q01
      cases q
      · by_cases hlt2 : ltB x y p r = true
        · have sl := slt_any x y p r
          rw [hlt2] at sl
          have F := Lib.hid (put_hit (by rw [hn.out]; exact hlt) hc.out (show ltP (x, y) (p, r) = true from hlt2) hE.out)
          clear hlt2 h
          go_wp2_with fail
          go_region_with (go_at_call 41; (with_reducible refine (sl _).mono ?_); rintro e w2 ⟨rfl, B⟩; have D2 := Lib.hid (bstep (Below.drew hnx.out) B); have A2 := Lib.hid ((Below.block B _ hs).trans (show wr.drew.heap[w.heap.size]? = _ from hA.out)); have R2 := Lib.hid ((Row.up hR.out (Below.drew (Below.refl _ _))).up B); obtain ⟨x0, x1, _, _⟩ := blk2 A2.out; have q0 := cell_later B (show wr.drew.cell? _ = _ from q0); have q1 := cell_later B (show wr.drew.cell? _ = _ from q1); have hs := lt_of_heap A2.out; have sz := Below.size B; clear B hA hR hnx)
          all_goals
            go_wp2_with (at_builtin; refine wpList_append_own _ rfl _ _ 23 rfl (w.heap.size + 1) 31 i0 (.agg #[.int .i64 0, .int .i64 0]) 2 16 Tryd.underlying23 hi hz0 hz1 hz2 rfl (by decide) _ _ _ rfl (R2.out.1.alloc _) ⟨w2.heap.size, 0, none⟩ 1 1 [.int .i64 x, .int .i64 y] rfl rfl ?c1 ?c2 ?c3 ?c4 ?c5 ?_)
            case c1 => exact two_cells _ _ _ _ _ (by simp)
            case c2 => intro u hu; simp at hu; rcases hu with rfl | rfl <;> rfl
            case c3 => unfold maxLen; first | omega | (simp; omega)
            case c4 => first | omega | (simp; omega)
            case c5 => first | omega | (simp; omega)
            intro v3 w3 hown' hgrow hnil
            obtain ⟨R1, R2', R3⟩ := put_mid D2.out A2.out R2.out hown' hgrow (fun e => hnil e)
            have R4 := Lib.hid R1
            have A4 := Lib.hid R2'
            have D4 := Lib.hid R3
            have hb4 : Below w2.heap.size w2 w2 := Below.refl _ _
            have q0' : w3.cell? ⟨b, off + k * 2, none⟩ = some (.int .i64 p) := (Below.cell R3 (p := ⟨b, off + k * 2, none⟩) hb).trans q00.out
            have q1' : w3.cell? ⟨b, off + k * 2 + 1, none⟩ = some (.int .i64 r) := (Below.cell R3 (p := ⟨b, off + k * 2 + 1, none⟩) hb).trans q01.out
            obtain ⟨x0', x1', _, _⟩ := blk2 A4.out
            have hs' := lt_of_heap A4.out
            have hOl' : (O ++ [(x, y)]).length ≤ 1900002 := by simp; omega
            clear hown' hgrow hnil R1 R2' R3 hb4 q0 q1 x0 x1 D2 A2 R2
            obtain ⟨O2, hO2⟩ : ∃ O2, O ++ [(x, y)] = O2 := ⟨_, rfl⟩
            rw [hO2] at R4 F hOl'
            clear hO2
            go_wp2_with (at_builtin; refine wpList_append_own _ rfl _ _ 23 rfl (w.heap.size + 1) 31 i0 (.agg #[.int .i64 0, .int .i64 0]) 2 16 Tryd.underlying23 hi hz0 hz1 hz2 rfl (by decide) _ _ _ rfl (R4.out.1.alloc _) ⟨w3.heap.size, 0, none⟩ 1 1 [.int .i64 p, .int .i64 r] rfl rfl ?c1 ?c2 ?c3 ?c4 ?c5 ?_)
            case c1 => exact two_cells _ _ _ _ _ (by simp)
            case c2 => intro u hu; simp at hu; rcases hu with rfl | rfl <;> rfl
            case c3 => unfold maxLen; first | omega | (simp; omega)
            case c4 => first | omega | (simp; omega)
            case c5 => first | omega | (simp; omega)
            intro v' w4 hown' hgrow hnil
            obtain ⟨R1, R2', R3⟩ := put_mid D4.out A4.out R4.out hown' hgrow (fun e => hnil e)
            have RR : Hid (PutRel L x y w (k + 1) v' true w4) := Lib.hid ⟨_, R1, F.out, R2', R3⟩
            clear hown' hgrow hnil R1 R2' R3 F hE
            go_wp2_with fail
            go_roundw
            case rel => exact ⟨k + 1, true, by omega, by go_num, rfl, RR.out⟩
            case measure => simp [intOf]; omega
        · have hlt2 : ltB x y p r = false := by simpa using hlt2
          have sl := slt_any x y p r
          rw [hlt2] at sl
          have F := Lib.hid (put_miss (by rw [hn.out]; exact hlt) hc.out (show ltP (x, y) (p, r) = false from hlt2) hE.out)
          clear hlt2 h
          go_wp2_with fail
          go_region_with (go_at_call 41; (with_reducible refine (sl _).mono ?_); rintro e w2 ⟨rfl, B⟩; have D2 := Lib.hid (bstep (Below.drew hnx.out) B); have A2 := Lib.hid ((Below.block B _ hs).trans (show wr.drew.heap[w.heap.size]? = _ from hA.out)); have R2 := Lib.hid ((Row.up hR.out (Below.drew (Below.refl _ _))).up B); obtain ⟨x0, x1, _, _⟩ := blk2 A2.out; have q0 := cell_later B (show wr.drew.cell? _ = _ from q0); have q1 := cell_later B (show wr.drew.cell? _ = _ from q1); have hs := lt_of_heap A2.out; have sz := Below.size B; clear B hA hR hnx)
          all_goals
            go_wp2_with (at_builtin; refine wpList_append_own _ rfl _ _ 23 rfl (w.heap.size + 1) 31 i0 (.agg #[.int .i64 0, .int .i64 0]) 2 16 Tryd.underlying23 hi hz0 hz1 hz2 rfl (by decide) _ _ _ rfl (R2.out.1.alloc _) ⟨w2.heap.size, 0, none⟩ 1 1 [.int .i64 p, .int .i64 r] rfl rfl ?c1 ?c2 ?c3 ?c4 ?c5 ?_)
            case c1 => exact two_cells _ _ _ _ _ (by simp)
            case c2 => intro u hu; simp at hu; rcases hu with rfl | rfl <;> rfl
            case c3 => unfold maxLen; first | omega | (simp; omega)
            case c4 => first | omega | (simp; omega)
            case c5 => first | omega | (simp; omega)
            intro v' w4 hown' hgrow hnil
            obtain ⟨R1, R2', R3⟩ := put_mid D2.out A2.out R2.out hown' hgrow (fun e => hnil e)
            have RR : Hid (PutRel L x y w (k + 1) v' false w4) := Lib.hid ⟨_, R1, F.out, R2', R3⟩
            clear hown' hgrow hnil R1 R2' R3 F hE
            go_wp2_with fail
            go_roundw
            case rel => exact ⟨k + 1, false, by omega, by go_num, rfl, RR.out⟩
            case measure => simp [intOf]; omega
      · have F := Lib.hid (put_in (by rw [hn.out]; exact hlt) hc.out hE.out)
        clear h
        go_wp2_with fail
        go_quiet (fail)
        go_wp2_with (at_builtin; refine wpList_append_own _ rfl _ _ 23 rfl (w.heap.size + 1) 31 i0 (.agg #[.int .i64 0, .int .i64 0]) 2 16 Tryd.underlying23 hi hz0 hz1 hz2 rfl (by decide) _ _ _ rfl ((hR.out.up (bdrewN (Below.refl _ _) _)).1.alloc _) ⟨wr.heap.size, 0, none⟩ 1 1 [.int .i64 p, .int .i64 r] rfl rfl ?c1 ?c2 ?c3 ?c4 ?c5 ?_)
        case c1 => exact two_cells _ _ _ _ _ (by simp)
        case c2 => intro u hu; simp at hu; rcases hu with rfl | rfl <;> rfl
        case c3 => unfold maxLen; first | omega | (simp; omega)
        case c4 => first | omega | (simp; omega)
        case c5 => first | omega | (simp; omega)
        intro v' w4 hown' hgrow hnil
        obtain ⟨R1, R2', R3⟩ := put_mid (bdrewN hnx.out _) (show (wr.drewN _).heap[w.heap.size]? = _ from hA.out) (hR.out.up (bdrewN (Below.refl _ _) _)) hown' hgrow (fun e => hnil e)
        have RR : Hid (PutRel L x y w (k + 1) v' true w4) := Lib.hid ⟨_, R1, F.out, R2', R3⟩
        clear hR hA hnx hown' hgrow hnil R1 R2' R3 F hE
        go_wp2_with fail
        go_roundw
        case rel => exact ⟨k + 1, true, by omega, by go_num, rfl, RR.out⟩
        case measure => simp [intOf]; omega
    · obtain rfl : k = n := by omega
      have hdr : L.drop k = [] := List.drop_eq_nil_of_le (by rw [hn.out]; exact Nat.le_refl _)
      have hE2 := hE.out
      rw [hdr] at hE2
      have hE2 := Lib.hid hE2
      have hnx := Lib.hid hnx
      clear h hE hdr
      cases q
      · skip
        go_wp2_with (at_builtin; refine wpList_append_own _ rfl _ _ 23 rfl (w.heap.size + 1) 31 i0 (.agg #[.int .i64 0, .int .i64 0]) 2 16 Tryd.underlying23 hi hz0 hz1 hz2 rfl (by decide) _ _ _ rfl (hR.out.1.alloc _) ⟨wr.heap.size, 0, none⟩ 1 1 [.int .i64 x, .int .i64 y] rfl rfl ?c1 ?c2 ?c3 ?c4 ?c5 ?_)
        case c1 => exact two_cells _ _ _ _ _ (by simp)
        case c2 => intro u hu; simp at hu; rcases hu with rfl | rfl <;> rfl
        case c3 => unfold maxLen; first | omega | (simp; omega)
        case c4 => first | omega | (simp; omega)
        case c5 => first | omega | (simp; omega)
        intro v' w4 hown' hgrow hnil
        obtain ⟨R1, R2', R3⟩ := put_mid hnx.out hA.out hR.out hown' hgrow (fun e => hnil e)
        obtain ⟨g, hg, hO⟩ := R1.own (by simp; omega)
        rw [show O ++ [(x, y)] = putP L (x, y) from hE2.out] at hO
        have hO := Lib.hid hO
        have D4 := Lib.hid R3
        clear hown' hgrow hnil R1 R2' R3 hR hA hnx
        go_wp2_with fail
        go_ret
        exact ⟨g, _, by omega, rfl, hO.out, D4.out⟩
      · obtain ⟨g, hg, hO⟩ := hR.out.own (by omega)
        rw [show O = putP L (x, y) from (List.append_nil O).symm.trans hE2.out] at hO
        have hO := Lib.hid hO
        clear hR hA
        go_wp2_with fail
        go_ret
        exact ⟨g, _, by omega, rfl, hO.out, hnx.out⟩

theorem Row.parts {w : World} {B g n cap : Nat} {O : List Pid} (h : Row w B (.slice (some ⟨g, 0, none⟩) n cap) O) : ∃ cur, w.heap[g]? = some (.cells cur 31 (0, 0)) ∧ cur.size = cap * 2 ∧ O.length = n ∧ (∀ j, j < cap * 2 → (w.cell? ⟨g, j, none⟩).isSome = true) ∧ (∀ j, w.frozen? ⟨g, j, none⟩ = false) ∧ (∀ j, j < n * 2 → w.cell? ⟨g, j, none⟩ = (flatP O)[j]?) := by
  rcases h.1.2 with ⟨e, _⟩ | ⟨g', cap', cur, e, h1, h2, h3, h4, h5, h6⟩
  · exact absurd e h.2
  · injection e with e1 e2 e3
    injection e1 with e1
    injection e1 with e1
    subst e1 e2 e3
    refine ⟨cur, h2, h5, rfl, fun j hj => ?_, fun j => by simp [World.frozen?, h2], fun j hj => ?_⟩
    · rw [cell_of_cells h2, Array.getElem?_eq_getElem (by omega)]; rfl
    · rw [cell_of_cells h2, ← h6, List.getElem?_take, if_pos hj]; simp
end Go.Proofs.YtigaepbhbfpijaaDoor
