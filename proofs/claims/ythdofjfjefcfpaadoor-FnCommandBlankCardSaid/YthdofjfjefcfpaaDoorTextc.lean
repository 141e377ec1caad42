/- CommandText, of the model and of the program, and the walk of the law FnExactCommandText. -/
import Derived.Test.YthdofjfjefcfpaaDoorTextb
namespace Go.Proofs.YthdofjfjefcfpaaDoor
open Go.RowKit
set_option linter.unusedVariables false
set_option maxRecDepth 100000

theorem l1R (key : Nat) (h : key < 6) (w : World) :
    Calls Tryd.prog 19 #[.agg #[.int .i64 0, .int .i64 key, .int .i64 0]] w fun e w' => e = .returned (.string (txR key)) ∧ Below w.heap.size w w' := by
  have s1 := dec_any key (by omega)
  have hs : ¬ 9223372036854775807 < 5 + (decB key).size := by have := decB_size key; omega
  unfold txR
  generalize decB key = s at s1 hs ⊢
  go_enter Tryd.func19, Tryd.ntmps19
  go_wp2_with fail
  refine (s1 _).mono ?_
  rintro e w1 ⟨rfl, hb⟩
  have D1 := Lib.hid (((Below.refl _ _).alloc (Nat.le_refl _) _).trans (hb.mono (by simp)))
  clear hb s1
  go_wp2_with fail
  go_ret
  exact ⟨rfl, D1.out⟩

theorem l1N (w : World) :
    Calls Tryd.prog 19 #[.agg #[.int .i64 3, .int .i64 0, .int .i64 0]] w fun e w' => e = .returned (.string txN) ∧ Below w.heap.size w w' := by
  go_enter Tryd.func19, Tryd.ntmps19
  go_wp2_with fail
  go_ret
  exact ⟨rfl, (Below.refl _ _).alloc (Nat.le_refl _) _⟩

set_option maxHeartbeats 1000000 in
theorem l1P (key v : Nat) (h : key < 6) (h2 : v < 100) (w : World) :
    Calls Tryd.prog 19 #[.agg #[.int .i64 1, .int .i64 key, .int .i64 v]] w fun e w' => e = .returned (.string (txP key v)) ∧ Below w.heap.size w w' := by
  have s1 := dec_any key (by omega)
  have s2 := dec_any v h2
  have hs : ¬ 9223372036854775807 < 4 + (decB key).size := by have := decB_size key; omega
  have hs1 : ¬ 9223372036854775807 < 4 + (decB key).size + 1 := by have := decB_size key; omega
  have hs2 : ¬ 9223372036854775807 < 4 + (decB key).size + 1 + (decB v).size := by have := decB_size key; have := decB_size v; omega
  unfold txP
  generalize decB key = s at s1 hs hs1 hs2 ⊢
  generalize decB v = t at s2 hs2 ⊢
  go_enter Tryd.func19, Tryd.ntmps19
  go_upto_region 5 with fail
  refine wp_region_held_drew (S := fun w' => w'.cell? ⟨w.heap.size, 1, none⟩ = some (.int .i64 key) ∧ w'.cell? ⟨w.heap.size, 2, none⟩ = some (.int .i64 v) ∧ Below w.heap.size w w') (by kernel_rfl) ⟨by go_simp, by go_simp, ((Below.refl _ _).alloc (Nat.le_refl _) _).drew⟩ (fun hHeld => ?_)
  refine wpAnyH_take (i := 0) (oi := ⟨some 13, _, _, _, _, _⟩) (v := ?_) rfl (by kernel_rfl) (by kernel_rfl) (by kernel_rfl) (fun _ _ _ h => h) (Or.inl ⟨by rfl, ?_⟩) (by assumption) ?_
  rotate_left 1
  · intro w hSw; (try dsimp only at hSw); go_simp; try (with_reducible rfl)
  try simp only [Act.put, List.setIfInBounds_toArray, List.set_cons_zero, List.set_cons_succ]
  refine wpAnyH_take (i := 1) (oi := ⟨some 14, _, _, _, _, _⟩) (v := ?_) rfl (by kernel_rfl) (by kernel_rfl) (by kernel_rfl) (fun _ _ _ h => h) (Or.inl ⟨by rfl, ?_⟩) (by assumption) ?_
  rotate_left 1
  · intro w hSw; (try dsimp only at hSw); go_simp; try (with_reducible rfl)
  try simp only [Act.put, List.setIfInBounds_toArray, List.set_cons_zero, List.set_cons_succ]
  refine wpAnyH_take (i := 5) (oi := ⟨some 18, _, _, _, _, _⟩) (v := ?_) rfl (by kernel_rfl) (by kernel_rfl) (by kernel_rfl) (fun _ _ _ h => h) (Or.inl ⟨by rfl, ?_⟩) (by assumption) ?_
  rotate_left 1
  · intro w hSw; (try dsimp only at hSw); go_simp; try (with_reducible rfl)
  try simp only [Act.put, List.setIfInBounds_toArray, List.set_cons_zero, List.set_cons_succ]
  refine wpAnyH_take (i := 6) (oi := ⟨some 19, _, _, _, _, _⟩) (v := ?_) rfl (by kernel_rfl) (by kernel_rfl) (by kernel_rfl) (fun _ _ _ h => h) (Or.inl ⟨by rfl, ?_⟩) (by assumption) ?_
  rotate_left 1
  · intro w hSw; (try dsimp only at hSw); go_simp; try (with_reducible rfl)
  try simp only [Act.put, List.setIfInBounds_toArray, List.set_cons_zero, List.set_cons_succ]
  refine wpAnyH_ready (rs := [2]) (by kernel_rfl) (by simp) ?_
  refine AllReadyH.cons (o := ⟨some 15, _, _, _, _, _⟩) rfl (fun K hK => ?_) AllReadyH.nil
  go_simp
  refine (s1 _).mono ?_
  rintro e w1 ⟨rfl, hb⟩
  go_wp2_with fail
  refine hK.out _ _ ?_ (fun hHeld2 => ?_)
  · exact ⟨cell_later hb hHeld.1, cell_later hb hHeld.2.1, hHeld.2.2.trans (hb.mono hHeld.2.2.size)⟩
  clear hK K hHeld hb
  have hHeld := hHeld2
  clear hHeld2
  try simp only [Act.put, List.setIfInBounds_toArray, List.set_cons_zero, List.set_cons_succ]
  refine wpAnyH_take (i := 3) (oi := ⟨some 16, _, _, _, _, _⟩) (v := ?_) rfl (by kernel_rfl) (by kernel_rfl) (by kernel_rfl) (fun _ _ _ h => h) (Or.inl ⟨by rfl, ?_⟩) (by assumption) ?_
  rotate_left 1
  · intro w hSw; (try dsimp only at hSw); go_simp; try (with_reducible rfl)
  try simp only [Act.put, List.setIfInBounds_toArray, List.set_cons_zero, List.set_cons_succ]
  refine wpAnyH_take (i := 4) (oi := ⟨some 17, _, _, _, _, _⟩) (v := ?_) rfl (by kernel_rfl) (by kernel_rfl) (by kernel_rfl) (fun _ _ _ h => h) (Or.inl ⟨by rfl, ?_⟩) (by assumption) ?_
  rotate_left 1
  · intro w hSw; (try dsimp only at hSw); go_simp; try (with_reducible rfl)
  try simp only [Act.put, List.setIfInBounds_toArray, List.set_cons_zero, List.set_cons_succ]
  refine wpAnyH_ready (rs := [7]) (by kernel_rfl) (by simp) ?_
  refine AllReadyH.cons (o := ⟨some 20, _, _, _, _, _⟩) rfl (fun K hK => ?_) AllReadyH.nil
  go_simp
  refine (s2 _).mono ?_
  rintro e w2 ⟨rfl, hb⟩
  go_wp2_with fail
  refine hK.out _ _ ?_ (fun hHeld2 => ?_)
  · exact ⟨cell_later hb hHeld.1, cell_later hb hHeld.2.1, hHeld.2.2.trans (hb.mono hHeld.2.2.size)⟩
  clear hK K hHeld hb
  have hHeld := hHeld2
  clear hHeld2
  try simp only [Act.put, List.setIfInBounds_toArray, List.set_cons_zero, List.set_cons_succ]
  refine wpAnyH_take (i := 8) (oi := ⟨some 21, _, _, _, _, _⟩) (v := ?_) rfl (by kernel_rfl) (by kernel_rfl) (by kernel_rfl) (fun _ _ _ h => h) (Or.inl ⟨by rfl, ?_⟩) (by assumption) ?_
  rotate_left 1
  · intro w hSw; (try dsimp only at hSw); go_simp; try (with_reducible rfl)
  try simp only [Act.put, List.setIfInBounds_toArray, List.set_cons_zero, List.set_cons_succ]
  refine wpAnyH_take (i := 9) (oi := ⟨some 2, _, _, _, _, _⟩) (v := ?_) rfl (by kernel_rfl) (by kernel_rfl) (by kernel_rfl) (fun _ _ _ h => h) (Or.inl ⟨by rfl, ?_⟩) (by assumption) ?_
  rotate_left 1
  · intro w hSw; (try dsimp only at hSw); go_simp; try (with_reducible rfl)
  try simp only [Act.put, List.setIfInBounds_toArray, List.set_cons_zero, List.set_cons_succ]
  refine wpAnyH_done (by kernel_rfl) ?_ _
  try simp only [Act.put, List.setIfInBounds_toArray, List.set_cons_zero, List.set_cons_succ]
  go_wp2_with fail
  go_ret
  exact ⟨rfl, hHeld.2.2⟩

set_option maxHeartbeats 1000000 in
theorem l1A (key v : Nat) (h : key < 6) (h2 : v < 100) (w : World) :
    Calls Tryd.prog 19 #[.agg #[.int .i64 2, .int .i64 key, .int .i64 v]] w fun e w' => e = .returned (.string (txA key v)) ∧ Below w.heap.size w w' := by
  have s1 := dec_any key (by omega)
  have s2 := dec_any v h2
  have hs : ¬ 9223372036854775807 < 4 + (decB key).size := by have := decB_size key; omega
  have hs1 : ¬ 9223372036854775807 < 4 + (decB key).size + 1 := by have := decB_size key; omega
  have hs2 : ¬ 9223372036854775807 < 4 + (decB key).size + 1 + (decB v).size := by have := decB_size key; have := decB_size v; omega
  unfold txA
  generalize decB key = s at s1 hs hs1 hs2 ⊢
  generalize decB v = t at s2 hs2 ⊢
  go_enter Tryd.func19, Tryd.ntmps19
  go_upto_region 7 with fail
  refine wp_region_held_drew (S := fun w' => w'.cell? ⟨w.heap.size, 1, none⟩ = some (.int .i64 key) ∧ w'.cell? ⟨w.heap.size, 2, none⟩ = some (.int .i64 v) ∧ Below w.heap.size w w') (by kernel_rfl) ⟨by go_simp, by go_simp, ((Below.refl _ _).alloc (Nat.le_refl _) _).drew⟩ (fun hHeld => ?_)
  refine wpAnyH_take (i := 0) (oi := ⟨some 24, _, _, _, _, _⟩) (v := ?_) rfl (by kernel_rfl) (by kernel_rfl) (by kernel_rfl) (fun _ _ _ h => h) (Or.inl ⟨by rfl, ?_⟩) (by assumption) ?_
  rotate_left 1
  · intro w hSw; (try dsimp only at hSw); go_simp; try (with_reducible rfl)
  try simp only [Act.put, List.setIfInBounds_toArray, List.set_cons_zero, List.set_cons_succ]
  refine wpAnyH_take (i := 1) (oi := ⟨some 25, _, _, _, _, _⟩) (v := ?_) rfl (by kernel_rfl) (by kernel_rfl) (by kernel_rfl) (fun _ _ _ h => h) (Or.inl ⟨by rfl, ?_⟩) (by assumption) ?_
  rotate_left 1
  · intro w hSw; (try dsimp only at hSw); go_simp; try (with_reducible rfl)
  try simp only [Act.put, List.setIfInBounds_toArray, List.set_cons_zero, List.set_cons_succ]
  refine wpAnyH_take (i := 5) (oi := ⟨some 29, _, _, _, _, _⟩) (v := ?_) rfl (by kernel_rfl) (by kernel_rfl) (by kernel_rfl) (fun _ _ _ h => h) (Or.inl ⟨by rfl, ?_⟩) (by assumption) ?_
  rotate_left 1
  · intro w hSw; (try dsimp only at hSw); go_simp; try (with_reducible rfl)
  try simp only [Act.put, List.setIfInBounds_toArray, List.set_cons_zero, List.set_cons_succ]
  refine wpAnyH_take (i := 6) (oi := ⟨some 30, _, _, _, _, _⟩) (v := ?_) rfl (by kernel_rfl) (by kernel_rfl) (by kernel_rfl) (fun _ _ _ h => h) (Or.inl ⟨by rfl, ?_⟩) (by assumption) ?_
  rotate_left 1
  · intro w hSw; (try dsimp only at hSw); go_simp; try (with_reducible rfl)
  try simp only [Act.put, List.setIfInBounds_toArray, List.set_cons_zero, List.set_cons_succ]
  refine wpAnyH_ready (rs := [2]) (by kernel_rfl) (by simp) ?_
  refine AllReadyH.cons (o := ⟨some 26, _, _, _, _, _⟩) rfl (fun K hK => ?_) AllReadyH.nil
  go_simp
  refine (s1 _).mono ?_
  rintro e w1 ⟨rfl, hb⟩
  go_wp2_with fail
  refine hK.out _ _ ?_ (fun hHeld2 => ?_)
  · exact ⟨cell_later hb hHeld.1, cell_later hb hHeld.2.1, hHeld.2.2.trans (hb.mono hHeld.2.2.size)⟩
  clear hK K hHeld hb
  have hHeld := hHeld2
  clear hHeld2
  try simp only [Act.put, List.setIfInBounds_toArray, List.set_cons_zero, List.set_cons_succ]
  refine wpAnyH_take (i := 3) (oi := ⟨some 27, _, _, _, _, _⟩) (v := ?_) rfl (by kernel_rfl) (by kernel_rfl) (by kernel_rfl) (fun _ _ _ h => h) (Or.inl ⟨by rfl, ?_⟩) (by assumption) ?_
  rotate_left 1
  · intro w hSw; (try dsimp only at hSw); go_simp; try (with_reducible rfl)
  try simp only [Act.put, List.setIfInBounds_toArray, List.set_cons_zero, List.set_cons_succ]
  refine wpAnyH_take (i := 4) (oi := ⟨some 28, _, _, _, _, _⟩) (v := ?_) rfl (by kernel_rfl) (by kernel_rfl) (by kernel_rfl) (fun _ _ _ h => h) (Or.inl ⟨by rfl, ?_⟩) (by assumption) ?_
  rotate_left 1
  · intro w hSw; (try dsimp only at hSw); go_simp; try (with_reducible rfl)
  try simp only [Act.put, List.setIfInBounds_toArray, List.set_cons_zero, List.set_cons_succ]
  refine wpAnyH_ready (rs := [7]) (by kernel_rfl) (by simp) ?_
  refine AllReadyH.cons (o := ⟨some 31, _, _, _, _, _⟩) rfl (fun K hK => ?_) AllReadyH.nil
  go_simp
  refine (s2 _).mono ?_
  rintro e w2 ⟨rfl, hb⟩
  go_wp2_with fail
  refine hK.out _ _ ?_ (fun hHeld2 => ?_)
  · exact ⟨cell_later hb hHeld.1, cell_later hb hHeld.2.1, hHeld.2.2.trans (hb.mono hHeld.2.2.size)⟩
  clear hK K hHeld hb
  have hHeld := hHeld2
  clear hHeld2
  try simp only [Act.put, List.setIfInBounds_toArray, List.set_cons_zero, List.set_cons_succ]
  refine wpAnyH_take (i := 8) (oi := ⟨some 32, _, _, _, _, _⟩) (v := ?_) rfl (by kernel_rfl) (by kernel_rfl) (by kernel_rfl) (fun _ _ _ h => h) (Or.inl ⟨by rfl, ?_⟩) (by assumption) ?_
  rotate_left 1
  · intro w hSw; (try dsimp only at hSw); go_simp; try (with_reducible rfl)
  try simp only [Act.put, List.setIfInBounds_toArray, List.set_cons_zero, List.set_cons_succ]
  refine wpAnyH_take (i := 9) (oi := ⟨some 2, _, _, _, _, _⟩) (v := ?_) rfl (by kernel_rfl) (by kernel_rfl) (by kernel_rfl) (fun _ _ _ h => h) (Or.inl ⟨by rfl, ?_⟩) (by assumption) ?_
  rotate_left 1
  · intro w hSw; (try dsimp only at hSw); go_simp; try (with_reducible rfl)
  try simp only [Act.put, List.setIfInBounds_toArray, List.set_cons_zero, List.set_cons_succ]
  refine wpAnyH_done (by kernel_rfl) ?_ _
  try simp only [Act.put, List.setIfInBounds_toArray, List.set_cons_zero, List.set_cons_succ]
  go_wp2_with fail
  go_ret
  exact ⟨rfl, hHeld.2.2⟩

theorem txt_r {key : Nat} (h : key < 6) : txt 0 key 0 = txR key := by unfold txt; rw [cv_r (by omega) (by omega)]; rfl
theorem txt_p {key v : Nat} (h : key < 6) (h2 : v < 100) : txt 1 key v = txP key v := by unfold txt; rw [cv_p (by omega) (by omega) (by omega) (by omega)]; rfl
theorem txt_a {key v : Nat} (h : key < 6) (h2 : v < 100) : txt 2 key v = txA key v := by unfold txt; rw [cv_a (by omega) (by omega) (by omega) (by omega)]; rfl
theorem txt_n : txt 3 0 0 = txN := by unfold txt; rw [cv_n]; rfl

/-- A valid command, by its kind. -/
theorem cv_nat {k key v : Int} (h : cvB k key v = true) : (∃ m : Nat, m < 6 ∧ k = 0 ∧ key = m ∧ v = 0) ∨ (∃ m n : Nat, m < 6 ∧ n < 100 ∧ k = 1 ∧ key = m ∧ v = n) ∨ (∃ m n : Nat, m < 6 ∧ n < 100 ∧ k = 2 ∧ key = m ∧ v = n) ∨ (k = 3 ∧ key = 0 ∧ v = 0) := by
  rcases cv_of h with ⟨h0, h1, h2, h3⟩ | ⟨h0, h1, h2, h3, h4⟩ | ⟨h0, h1, h2, h3, h4⟩ | h
  · exact .inl ⟨key.toNat, by omega, h0, by omega, h3⟩
  · exact .inr (.inl ⟨key.toNat, v.toNat, by omega, by omega, h0, by omega, by omega⟩)
  · exact .inr (.inr (.inl ⟨key.toNat, v.toNat, by omega, by omega, h0, by omega, by omega⟩))
  · exact .inr (.inr (.inr h))

theorem l1_any (k key v : Int) (h : cvB k key v = true) (w : World) :
    Calls Tryd.prog 19 #[.agg #[.int .i64 k, .int .i64 key, .int .i64 v]] w fun e w' => e = .returned (.string (txt k key v)) ∧ Below w.heap.size w w' := by
  rcases cv_nat h with ⟨m, h1, rfl, rfl, rfl⟩ | ⟨m, n, h1, h2, rfl, rfl, rfl⟩ | ⟨m, n, h1, h2, rfl, rfl, rfl⟩ | ⟨rfl, rfl, rfl⟩
  · rw [txt_r h1]; exact l1R m h1 w
  · rw [txt_p h1 h2]; exact l1P m n h1 h2 w
  · rw [txt_a h1 h2]; exact l1A m n h1 h2 w
  · rw [txt_n]; exact l1N w

theorem stext_any (k key v : Int) (w : World) :
    Calls Tryd.prog 9 #[.agg #[.int .i64 k, .int .i64 key, .int .i64 v]] w fun e w' => e = .returned (.string (txt k key v)) ∧ Below w.heap.size w w' := by
  have s1 := svalid_any k key v
  by_cases h : cvB k key v = true
  · have s2 := l1_any k key v h
    rw [h] at s1
    generalize txt k key v = s at s2 ⊢
    clear h
    go_enter Tryd.func9, Tryd.ntmps9
    go_wp2_with fail
    refine (s1 _).mono ?_
    rintro e w1 ⟨rfl, hb⟩
    obtain ⟨a1, a2, a3, _, _, _⟩ := blk3 ((hb.block w.heap.size (by simp)).trans (heap_alloc_new w _))
    have D1 := Lib.hid (((Below.refl _ _).alloc (Nat.le_refl _) _).trans (hb.mono (by simp)))
    clear hb s1
    go_wp2_with fail
    refine (s2 _).mono ?_
    rintro e w2 ⟨rfl, hb⟩
    have D2 := Lib.hid (D1.out.trans (hb.mono D1.out.size))
    clear hb s2
    go_wp2_with fail
    go_ret
    exact ⟨rfl, D2.out⟩
  · have h' : cvB k key v = false := by simpa using h
    have e : txt k key v = ⟨#[]⟩ := by unfold txt; rw [h']; rfl
    rw [e]
    rw [h'] at s1
    clear h h' e
    go_enter Tryd.func9, Tryd.ntmps9
    go_wp2_with fail
    refine (s1 _).mono ?_
    rintro e w1 ⟨rfl, hb⟩
    have D1 := Lib.hid (((Below.refl _ _).alloc (Nat.le_refl _) _).trans (hb.mono (by simp)))
    clear hb s1
    go_wp2_with fail
    go_ret
    exact ⟨rfl, D1.out⟩

theorem itextR (key : Nat) (h : key < 6) (w : World) :
    Calls Tryd.prog 8 #[.agg #[.int .i64 0, .int .i64 key, .int .i64 0]] w fun e w' => e = .returned (.string (txR key)) ∧ Below w.heap.size w w' := by
  have s1 := fun w => act_r key w (by omega) (by omega)
  have s2 := textR key h
  generalize txR key = s at s2 ⊢
  have hm : ∀ w : World, (method 228 53 (.agg #[.int .i64 key]) "loop.example/leaderlesslog/impl.text").run Tryd.prog w = .ok (88, .agg #[.int .i64 key]) w := fun _ => by kernel_rfl
  go_enter Tryd.func8, Tryd.ntmps8
  go_wp2_with fail
  refine (s1 _).mono ?_
  rintro e w1 ⟨rfl, hb⟩
  have D1 := Lib.hid (((Below.refl _ _).alloc (Nat.le_refl _) _).trans (hb.mono (by simp)))
  clear hb s1
  go_wp2_with fail
  refine (s2 _).mono ?_
  rintro e w2 ⟨rfl, hb⟩
  have D2 := Lib.hid (D1.out.trans (hb.mono D1.out.size))
  clear hb s2
  go_wp2_with fail
  go_ret
  exact ⟨rfl, D2.out⟩

theorem itextP (key v : Nat) (h : key < 6) (h2 : v < 100) (w : World) :
    Calls Tryd.prog 8 #[.agg #[.int .i64 1, .int .i64 key, .int .i64 v]] w fun e w' => e = .returned (.string (txP key v)) ∧ Below w.heap.size w w' := by
  have s1 := fun w => act_p key v w (by omega) (by omega) (by omega) (by omega)
  have s2 := textP key v h h2
  generalize txP key v = s at s2 ⊢
  have hm : ∀ w : World, (method 228 55 (.agg #[.int .i64 key, .int .i64 v]) "loop.example/leaderlesslog/impl.text").run Tryd.prog w = .ok (90, .agg #[.int .i64 key, .int .i64 v]) w := fun _ => by kernel_rfl
  go_enter Tryd.func8, Tryd.ntmps8
  go_wp2_with fail
  refine (s1 _).mono ?_
  rintro e w1 ⟨rfl, hb⟩
  have D1 := Lib.hid (((Below.refl _ _).alloc (Nat.le_refl _) _).trans (hb.mono (by simp)))
  clear hb s1
  go_wp2_with fail
  refine (s2 _).mono ?_
  rintro e w2 ⟨rfl, hb⟩
  have D2 := Lib.hid (D1.out.trans (hb.mono D1.out.size))
  clear hb s2
  go_wp2_with fail
  go_ret
  exact ⟨rfl, D2.out⟩

theorem itextA (key v : Nat) (h : key < 6) (h2 : v < 100) (w : World) :
    Calls Tryd.prog 8 #[.agg #[.int .i64 2, .int .i64 key, .int .i64 v]] w fun e w' => e = .returned (.string (txA key v)) ∧ Below w.heap.size w w' := by
  have s1 := fun w => act_a key v w (by omega) (by omega) (by omega) (by omega)
  have s2 := textA key v h h2
  generalize txA key v = s at s2 ⊢
  have hm : ∀ w : World, (method 228 56 (.agg #[.int .i64 key, .int .i64 v]) "loop.example/leaderlesslog/impl.text").run Tryd.prog w = .ok (92, .agg #[.int .i64 key, .int .i64 v]) w := fun _ => by kernel_rfl
  go_enter Tryd.func8, Tryd.ntmps8
  go_wp2_with fail
  refine (s1 _).mono ?_
  rintro e w1 ⟨rfl, hb⟩
  have D1 := Lib.hid (((Below.refl _ _).alloc (Nat.le_refl _) _).trans (hb.mono (by simp)))
  clear hb s1
  go_wp2_with fail
  refine (s2 _).mono ?_
  rintro e w2 ⟨rfl, hb⟩
  have D2 := Lib.hid (D1.out.trans (hb.mono D1.out.size))
  clear hb s2
  go_wp2_with fail
  go_ret
  exact ⟨rfl, D2.out⟩

theorem itextN  (w : World) :
    Calls Tryd.prog 8 #[.agg #[.int .i64 3, .int .i64 0, .int .i64 0]] w fun e w' => e = .returned (.string (txN)) ∧ Below w.heap.size w w' := by
  have s1 := act_n
  have s2 := textN
  generalize txN = s at s2 ⊢
  have hm : ∀ w : World, (method 228 58 (.agg #[]) "loop.example/leaderlesslog/impl.text").run Tryd.prog w = .ok (94, .agg #[]) w := fun _ => by kernel_rfl
  go_enter Tryd.func8, Tryd.ntmps8
  go_wp2_with fail
  refine (s1 _).mono ?_
  rintro e w1 ⟨rfl, hb⟩
  have D1 := Lib.hid (((Below.refl _ _).alloc (Nat.le_refl _) _).trans (hb.mono (by simp)))
  clear hb s1
  go_wp2_with fail
  refine (s2 _).mono ?_
  rintro e w2 ⟨rfl, hb⟩
  have D2 := Lib.hid (D1.out.trans (hb.mono D1.out.size))
  clear hb s2
  go_wp2_with fail
  go_ret
  exact ⟨rfl, D2.out⟩

theorem itext_any (k key v : Int) (w : World) :
    Calls Tryd.prog 8 #[.agg #[.int .i64 k, .int .i64 key, .int .i64 v]] w fun e w' => e = .returned (.string (txt k key v)) ∧ Below w.heap.size w w' := by
  by_cases h : cvB k key v = true
  · rcases cv_nat h with ⟨m, h1, rfl, rfl, rfl⟩ | ⟨m, n, h1, h2, rfl, rfl, rfl⟩ | ⟨m, n, h1, h2, rfl, rfl, rfl⟩ | ⟨rfl, rfl, rfl⟩
    · rw [txt_r h1]; exact itextR m h1 w
    · rw [txt_p h1 h2]; exact itextP m n h1 h2 w
    · rw [txt_a h1 h2]; exact itextA m n h1 h2 w
    · rw [txt_n]; exact itextN w
  · have h' : cvB k key v = false := by simpa using h
    have s1 := act_any k key v
    have e : txt k key v = ⟨#[]⟩ := by unfold txt; rw [h']; rfl
    rw [e]
    rw [h'] at s1
    generalize actV k key v = x at s1
    clear h h' e
    go_enter Tryd.func8, Tryd.ntmps8
    go_wp2_with fail
    refine (s1 _).mono ?_
    rintro e w1 ⟨rfl, hb⟩
    have D1 := Lib.hid (((Below.refl _ _).alloc (Nat.le_refl _) _).trans (hb.mono (by simp)))
    clear hb s1
    go_wp2_with fail
    go_ret
    exact ⟨rfl, D1.out⟩

end Go.Proofs.YthdofjfjefcfpaaDoor
