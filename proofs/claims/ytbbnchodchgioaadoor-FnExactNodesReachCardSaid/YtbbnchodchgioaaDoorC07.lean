/- Texts laid together. -/
import Derived.Test.YtbbnchodchgioaaDoorC01
import Derived.Deep.RegionHeld3
import Derived.Deep.LoopGhost
import Derived.Deep.RegionWith
/- The program's compare of nodes. -/
namespace Go.Proofs.YtbbnchodchgioaaDoor
open Go.RowKit
set_option linter.unusedVariables false

/-- What compare of nodes answers. -/
def cmpD (s s' p r p' r' : Int) : Int := orN (cmpN s s') (cmpI p r p' r')
theorem cmpD_neg {s s' p r p' r' : Int} : cmpD s s' p r p' r' < 0 ↔ (s < s' ∨ s = s' ∧ ltB p r p' r' = true) := by
  unfold cmpD orN
  by_cases h : cmpN s s' = 0
  · rw [if_pos h]
    have := cmpN_zero.1 h
    rw [← cmpI_neg, decide_eq_true_iff]; omega
  · rw [if_neg h]
    have h' : ¬ s = s' := fun e => h (cmpN_zero.2 e)
    rw [cmpN_neg]; simp [h']

set_option maxRecDepth 100000 in
set_option maxHeartbeats 2000000 in
theorem cmpD_any (p r s : Int) (ua : Option Addr) (un uc : Nat) (p' r' s' : Int) (ua' : Option Addr) (un' uc' : Nat) (w : World) :
    Calls Tryd.prog 74 #[.agg #[.int .i64 p, .int .i64 r, .int .i64 s, .slice ua un uc], .agg #[.int .i64 p', .int .i64 r', .int .i64 s', .slice ua' un' uc']] w fun e w' =>
      e = .returned (.int .i64 (cmpD s s' p r p' r')) ∧ Below w.heap.size w w' := by
  have s1 := fun W => (cmpN_any s s' W).mono (R' := fun e w' => e = .returned (.int .i64 (cmpN s s')) ∧ Below W.heap.size W w') (fun e w' hh => ⟨hh.1, hh.2 ▸ Below.refl _ _⟩)
  have s2 := cmpI_any p r p' r'
  unfold cmpD
  generalize cmpN s s' = x at s1 ⊢
  generalize cmpI p r p' r' = y at s2 ⊢
  have hA := heap_alloc_new w (.cells #[.int .i64 p, .int .i64 r, .int .i64 s, .slice ua un uc] 32)
  have hB := heap_alloc_new (w.alloc (.cells #[.int .i64 p, .int .i64 r, .int .i64 s, .slice ua un uc] 32)) (.cells #[.int .i64 p', .int .i64 r', .int .i64 s', .slice ua' un' uc'] 32)
  have D := Lib.hid (((Below.refl w.heap.size w).alloc (Nat.le_refl _) (.cells #[.int .i64 p, .int .i64 r, .int .i64 s, .slice ua un uc] 32)).alloc (by simp) (.cells #[.int .i64 p', .int .i64 r', .int .i64 s', .slice ua' un' uc'] 32))
  have hs : (w.alloc (.cells #[.int .i64 p, .int .i64 r, .int .i64 s, .slice ua un uc] 32)).heap.size = w.heap.size + 1 := by simp
  rw [hs] at hB
  obtain ⟨a0, a1, a2, _⟩ := four_cells ((((Below.refl (w.alloc (.cells #[.int .i64 p, .int .i64 r, .int .i64 s, .slice ua un uc] 32)).heap.size (w.alloc (.cells #[.int .i64 p, .int .i64 r, .int .i64 s, .slice ua un uc] 32))).alloc (Nat.le_refl _) (.cells #[.int .i64 p', .int .i64 r', .int .i64 s', .slice ua' un' uc'] 32)).block w.heap.size (by simp)).trans hA)
  obtain ⟨b0, b1, b2, _⟩ := four_cells hB
  clear hA hB hs
  go_enter Tryd.func74, Tryd.ntmps74
  go_upto_region 1 with fail
  refine wp_region_held_drew (S := fun w' => w'.cell? ⟨w.heap.size, 0, none⟩ = some (.int .i64 p) ∧ w'.cell? ⟨w.heap.size, 1, none⟩ = some (.int .i64 r) ∧ w'.cell? ⟨w.heap.size, 2, none⟩ = some (.int .i64 s) ∧ w'.cell? ⟨w.heap.size + 1, 0, none⟩ = some (.int .i64 p') ∧ w'.cell? ⟨w.heap.size + 1, 1, none⟩ = some (.int .i64 r') ∧ w'.cell? ⟨w.heap.size + 1, 2, none⟩ = some (.int .i64 s') ∧ Below ((w.alloc (.cells #[.int .i64 p, .int .i64 r, .int .i64 s, .slice ua un uc] 32)).alloc (.cells #[.int .i64 p', .int .i64 r', .int .i64 s', .slice ua' un' uc'] 32)).heap.size ((w.alloc (.cells #[.int .i64 p, .int .i64 r, .int .i64 s, .slice ua un uc] 32)).alloc (.cells #[.int .i64 p', .int .i64 r', .int .i64 s', .slice ua' un' uc'] 32)) w') (by kernel_rfl) ⟨a0, a1, a2, b0, b1, b2, Below.drew (Below.refl _ _)⟩ (fun hHeld => ?_)
  refine wpAnyH_take (i := 0) (oi := ⟨some 5, _, _, _, _, _⟩) (v := ?_) rfl (by kernel_rfl) (by kernel_rfl) (by kernel_rfl) (fun _ _ _ h => h) (Or.inl ⟨by rfl, ?_⟩) (by assumption) ?_
  rotate_left 1
  · intro w hSw; (try dsimp only at hSw); go_simp; try (with_reducible rfl)
  try simp only [Act.put, List.setIfInBounds_toArray, List.set_cons_zero, List.set_cons_succ]
  refine wpAnyH_take (i := 1) (oi := ⟨some 6, _, _, _, _, _⟩) (v := ?_) rfl (by kernel_rfl) (by kernel_rfl) (by kernel_rfl) (fun _ _ _ h => h) (Or.inl ⟨by rfl, ?_⟩) (by assumption) ?_
  rotate_left 1
  · intro w hSw; (try dsimp only at hSw); go_simp; try (with_reducible rfl)
  try simp only [Act.put, List.setIfInBounds_toArray, List.set_cons_zero, List.set_cons_succ]
  refine wpAnyH_take (i := 2) (oi := ⟨some 7, _, _, _, _, _⟩) (v := ?_) rfl (by kernel_rfl) (by kernel_rfl) (by kernel_rfl) (fun _ _ _ h => h) (Or.inl ⟨by rfl, ?_⟩) (by assumption) ?_
  rotate_left 1
  · intro w hSw; (try dsimp only at hSw); go_simp; try (with_reducible rfl)
  try simp only [Act.put, List.setIfInBounds_toArray, List.set_cons_zero, List.set_cons_succ]
  refine wpAnyH_take (i := 3) (oi := ⟨some 8, _, _, _, _, _⟩) (v := ?_) rfl (by kernel_rfl) (by kernel_rfl) (by kernel_rfl) (fun _ _ _ h => h) (Or.inl ⟨by rfl, ?_⟩) (by assumption) ?_
  rotate_left 1
  · intro w hSw; (try dsimp only at hSw); go_simp; try (with_reducible rfl)
  try simp only [Act.put, List.setIfInBounds_toArray, List.set_cons_zero, List.set_cons_succ]
  refine wpAnyH_take (i := 5) (oi := ⟨some 10, _, _, _, _, _⟩) (v := ?_) rfl (by kernel_rfl) (by kernel_rfl) (by kernel_rfl) (fun _ _ _ h => h) (Or.inl ⟨by rfl, ?_⟩) (by assumption) ?_
  rotate_left 1
  · intro w hSw; (try dsimp only at hSw); go_simp; try (with_reducible rfl)
  try simp only [Act.put, List.setIfInBounds_toArray, List.set_cons_zero, List.set_cons_succ]
  refine wpAnyH_take (i := 6) (oi := ⟨some 11, _, _, _, _, _⟩) (v := ?_) rfl (by kernel_rfl) (by kernel_rfl) (by kernel_rfl) (fun _ _ _ h => h) (Or.inl ⟨by rfl, ?_⟩) (by assumption) ?_
  rotate_left 1
  · intro w hSw; (try dsimp only at hSw); go_simp; try (with_reducible rfl)
  try simp only [Act.put, List.setIfInBounds_toArray, List.set_cons_zero, List.set_cons_succ]
  refine wpAnyH_take (i := 7) (oi := ⟨some 12, _, _, _, _, _⟩) (v := ?_) rfl (by kernel_rfl) (by kernel_rfl) (by kernel_rfl) (fun _ _ _ h => h) (Or.inl ⟨by rfl, ?_⟩) (by assumption) ?_
  rotate_left 1
  · intro w hSw; (try dsimp only at hSw); go_simp; try (with_reducible rfl)
  try simp only [Act.put, List.setIfInBounds_toArray, List.set_cons_zero, List.set_cons_succ]
  refine wpAnyH_take (i := 8) (oi := ⟨some 13, _, _, _, _, _⟩) (v := ?_) rfl (by kernel_rfl) (by kernel_rfl) (by kernel_rfl) (fun _ _ _ h => h) (Or.inl ⟨by rfl, ?_⟩) (by assumption) ?_
  rotate_left 1
  · intro w hSw; (try dsimp only at hSw); go_simp; try (with_reducible rfl)
  try simp only [Act.put, List.setIfInBounds_toArray, List.set_cons_zero, List.set_cons_succ]
  refine wpAnyH_ready (rs := [4]) (by kernel_rfl) (by simp) ?_
  refine AllReadyH.cons (o := ⟨some 9, _, _, _, _, _⟩) rfl (fun K hK => ?_) AllReadyH.nil
  go_simp
  refine (s1 _).mono ?_
  rintro e w2 ⟨rfl, hb⟩
  go_wp2_with fail
  refine hK.out _ _ ?_ (fun hHeld2 => ?_)
  · exact ⟨cell_later hb hHeld.1, cell_later hb hHeld.2.1, cell_later hb hHeld.2.2.1, cell_later hb hHeld.2.2.2.1, cell_later hb hHeld.2.2.2.2.1, cell_later hb hHeld.2.2.2.2.2.1, hHeld.2.2.2.2.2.2.trans (hb.mono hHeld.2.2.2.2.2.2.size)⟩
  clear hK K hHeld hb
  have hHeld := hHeld2
  clear hHeld2
  try simp only [Act.put, List.setIfInBounds_toArray, List.set_cons_zero, List.set_cons_succ]
  refine wpAnyH_ready (rs := [9]) (by kernel_rfl) (by simp) ?_
  refine AllReadyH.cons (o := ⟨some 14, _, _, _, _, _⟩) rfl (fun K hK => ?_) AllReadyH.nil
  go_simp
  refine (s2 _).mono ?_
  rintro e w3 ⟨rfl, hb⟩
  go_wp2_with fail
  refine hK.out _ _ ?_ (fun hHeld2 => ?_)
  · exact ⟨cell_later hb hHeld.1, cell_later hb hHeld.2.1, cell_later hb hHeld.2.2.1, cell_later hb hHeld.2.2.2.1, cell_later hb hHeld.2.2.2.2.1, cell_later hb hHeld.2.2.2.2.2.1, hHeld.2.2.2.2.2.2.trans (hb.mono hHeld.2.2.2.2.2.2.size)⟩
  clear hK K hHeld hb
  have hHeld := hHeld2
  clear hHeld2
  try simp only [Act.put, List.setIfInBounds_toArray, List.set_cons_zero, List.set_cons_succ]
  refine wpAnyH_ready (rs := [10]) (by kernel_rfl) (by simp) ?_
  refine AllReadyH.cons (o := ⟨some 15, _, _, _, _, _⟩) rfl (fun K hK => ?_) AllReadyH.nil
  go_simp
  refine hK.out _ _ ?_ (fun hHeld2 => ?_)
  · have hb := (Below.refl w3.heap.size w3).alloc (Nat.le_refl _) (.cells #[.int .i64 x, .int .i64 y] 3)
    exact ⟨cell_later hb hHeld.1, cell_later hb hHeld.2.1, cell_later hb hHeld.2.2.1, cell_later hb hHeld.2.2.2.1, cell_later hb hHeld.2.2.2.2.1, cell_later hb hHeld.2.2.2.2.2.1, hHeld.2.2.2.2.2.2.trans (hb.mono hHeld.2.2.2.2.2.2.size)⟩
  clear hK K hHeld
  have hHeld := hHeld2
  clear hHeld2
  try simp only [Act.put, List.setIfInBounds_toArray, List.set_cons_zero, List.set_cons_succ]
  refine wpAnyH_ready (rs := [11]) (by kernel_rfl) (by simp) ?_
  refine AllReadyH.cons (o := ⟨some 16, _, _, _, _, _⟩) rfl (fun K hK => ?_) AllReadyH.nil
  go_simp
  refine (orN_any _ x y _ (by go_simp) (by go_simp)).mono ?_
  rintro e w4 ⟨rfl, rfl⟩
  go_wp2_with fail
  refine hK.out _ _ hHeld (fun hHeld2 => ?_)
  clear hK K hHeld
  have hHeld := hHeld2
  clear hHeld2
  try simp only [Act.put, List.setIfInBounds_toArray, List.set_cons_zero, List.set_cons_succ]
  refine wpAnyH_take (i := 12) (oi := ⟨some 4, _, _, _, _, _⟩) (v := ?_) rfl (by kernel_rfl) (by kernel_rfl) (by kernel_rfl) (fun _ _ _ h => h) (Or.inl ⟨by rfl, ?_⟩) (by assumption) ?_
  rotate_left 1
  · intro w hSw; (try dsimp only at hSw); go_simp; try (with_reducible rfl)
  try simp only [Act.put, List.setIfInBounds_toArray, List.set_cons_zero, List.set_cons_succ]
  refine wpAnyH_done (by kernel_rfl) ?_ _
  try simp only [Act.put, List.setIfInBounds_toArray, List.set_cons_zero, List.set_cons_succ]
  have D2 := Lib.hid (D.out.trans (hHeld.2.2.2.2.2.2.mono D.out.size))
  clear hHeld
  go_wp2_with fail
  go_ret
  exact ⟨rfl, D2.out⟩
end Go.Proofs.YtbbnchodchgioaaDoor

/- slices.BinarySearchFunc at nodes, walked through. -/
namespace Go.Proofs.YtbbnchodchgioaaDoor
open Go.RowKit
set_option linter.unusedVariables false

/-- compareId of a node. -/
theorem cid_any (p r sq : Int) (ua : Option Addr) (un uc : Nat) (x y : Int) (w : World) :
    Calls Tryd.prog 89 #[.agg #[.int .i64 p, .int .i64 r, .int .i64 sq, .slice ua un uc], .agg #[.int .i64 x, .int .i64 y]] w fun e w' => e = .returned (.int .i64 (cmpI p r x y)) ∧ Below w.heap.size w w' := by
  have sc := cmpI_any p r x y
  have D := Lib.hid (((Below.refl w.heap.size w).alloc (Nat.le_refl _) (.cells #[.int .i64 p, .int .i64 r, .int .i64 sq, .slice ua un uc] 32)).alloc (by simp) (.cells #[.int .i64 x, .int .i64 y] 25))
  go_enter Tryd.func89, Tryd.ntmps89
  go_wp2_with fail
  refine (sc _).mono ?_
  rintro e w1 ⟨rfl, B⟩
  have D := Lib.hid (D.out.trans (B.mono D.out.size))
  clear B
  go_wp2_with fail
  go_ret
  exact ⟨rfl, D.out⟩

theorem nbin_lo {S : List Pid} {a : Pid} {m : Nat} (hA : Asc S) (hm : m < S.length) (h : ltP (S.getD m nop) a = true) : ∀ t, t < m + 1 → ltP (S.getD t nop) a = true := by
  intro t ht
  rcases Nat.lt_or_ge t m with h1 | h1
  · exact ltP_trans (asc_lt hA h1 hm) h
  · obtain rfl : t = m := by omega
    exact h
theorem nbin_hi {S : List Pid} {a : Pid} {m : Nat} (hA : Asc S) (h : ltP (S.getD m nop) a = false) : ∀ t, m ≤ t → t < S.length → ltP (S.getD t nop) a = false := by
  intro t ht hl
  rcases Nat.lt_or_ge m t with h1 | h1
  · cases hh : ltP (S.getD t nop) a with
    | false => rfl
    | true => rw [ltP_trans (asc_lt hA h1 hl) hh] at h; cases h
  · obtain rfl : t = m := by omega
    exact h
theorem nbin_in {S : List Pid} {a : Pid} {m : Nat} (hA : Asc S) (hp : posP S a = m) (hm : m < S.length) (h : S.getD m nop = a) : hasP S a = true := by
  unfold hasP; rw [decide_eq_true_iff, posP_mem hA, hp]; exact ⟨hm, h⟩
theorem nbin_out {S : List Pid} {a : Pid} {m : Nat} (hA : Asc S) (hp : posP S a = m) (h : ¬ (m < S.length ∧ S.getD m nop = a)) : hasP S a = false := by
  unfold hasP; rw [decide_eq_false_iff_not, posP_mem hA, hp]; exact h

theorem nbinS_drew {w wr w' : World} {g off m un uc : Nat} {ua : Option Addr} {x y p r sq : Int} (h : (wr.cell? ⟨w.heap.size, 0, none⟩ = some (.int .i64 x) ∧ wr.cell? ⟨w.heap.size, 1, none⟩ = some (.int .i64 y) ∧ wr.cell? ⟨g, off + m * 4, none⟩ = some (.int .i64 p) ∧ wr.cell? ⟨g, off + m * 4 + 1, none⟩ = some (.int .i64 r) ∧ wr.cell? ⟨g, off + m * 4 + 2, none⟩ = some (.int .i64 sq) ∧ wr.cell? ⟨g, off + m * 4 + 3, none⟩ = some (.slice ua un uc)) ∧ w.heap.size < wr.heap.size ∧ Below w.heap.size w wr) (e : w' = wr.drew) :
    (w'.cell? ⟨w.heap.size, 0, none⟩ = some (.int .i64 x) ∧ w'.cell? ⟨w.heap.size, 1, none⟩ = some (.int .i64 y) ∧ w'.cell? ⟨g, off + m * 4, none⟩ = some (.int .i64 p) ∧ w'.cell? ⟨g, off + m * 4 + 1, none⟩ = some (.int .i64 r) ∧ w'.cell? ⟨g, off + m * 4 + 2, none⟩ = some (.int .i64 sq) ∧ w'.cell? ⟨g, off + m * 4 + 3, none⟩ = some (.slice ua un uc)) ∧ w.heap.size < w'.heap.size ∧ Below w.heap.size w w' := by
  subst e; exact ⟨h.1, h.2.1, h.2.2.drew⟩
theorem nbinS_up {w wr w' : World} {g off m un uc : Nat} {ua : Option Addr} {x y p r sq : Int} (B : Below wr.heap.size wr w') (h : (wr.cell? ⟨w.heap.size, 0, none⟩ = some (.int .i64 x) ∧ wr.cell? ⟨w.heap.size, 1, none⟩ = some (.int .i64 y) ∧ wr.cell? ⟨g, off + m * 4, none⟩ = some (.int .i64 p) ∧ wr.cell? ⟨g, off + m * 4 + 1, none⟩ = some (.int .i64 r) ∧ wr.cell? ⟨g, off + m * 4 + 2, none⟩ = some (.int .i64 sq) ∧ wr.cell? ⟨g, off + m * 4 + 3, none⟩ = some (.slice ua un uc)) ∧ w.heap.size < wr.heap.size ∧ Below w.heap.size w wr) :
    (w'.cell? ⟨w.heap.size, 0, none⟩ = some (.int .i64 x) ∧ w'.cell? ⟨w.heap.size, 1, none⟩ = some (.int .i64 y) ∧ w'.cell? ⟨g, off + m * 4, none⟩ = some (.int .i64 p) ∧ w'.cell? ⟨g, off + m * 4 + 1, none⟩ = some (.int .i64 r) ∧ w'.cell? ⟨g, off + m * 4 + 2, none⟩ = some (.int .i64 sq) ∧ w'.cell? ⟨g, off + m * 4 + 3, none⟩ = some (.slice ua un uc)) ∧ w.heap.size < w'.heap.size ∧ Below w.heap.size w w' :=
  ⟨⟨cell_later B h.1.1, cell_later B h.1.2.1, cell_later B h.1.2.2.1, cell_later B h.1.2.2.2.1, cell_later B h.1.2.2.2.2.1, cell_later B h.1.2.2.2.2.2⟩, Nat.lt_of_lt_of_le h.2.1 B.size, bstep h.2.2 B⟩

set_option maxRecDepth 100000 in
set_option maxHeartbeats 4000000 in
theorem nbin_at (g off cap : Nat) (S : List Pid) (x y : Int) (w : World) (hA : Asc S) (hg : g < w.heap.size) (hl : S.length ≤ 2000000) (h : ∀ i, i < S.length → ∃ (sq : Int) (ua : Option Addr) (un uc : Nat), w.cell? ⟨g, off + i * 4, none⟩ = some (.int .i64 (S.getD i nop).1) ∧ w.cell? ⟨g, off + i * 4 + 1, none⟩ = some (.int .i64 (S.getD i nop).2) ∧ w.cell? ⟨g, off + i * 4 + 2, none⟩ = some (.int .i64 sq) ∧ w.cell? ⟨g, off + i * 4 + 3, none⟩ = some (.slice ua un uc)) :
    Calls Tryd.prog 88 #[.slice (some ⟨g, off, none⟩) S.length cap, .agg #[.int .i64 x, .int .i64 y], .func (.func 89) #[] #[]] w fun e w' =>
      e = .returned (.tuple #[.int .i64 (posP S (x, y)), .bool (hasP S (x, y))]) ∧ Below w.heap.size w w' := by
  have h := Lib.hid h
  have hA := Lib.hid hA
  obtain ⟨n, hn⟩ : ∃ n, Hid (S.length = n) := ⟨_, Lib.hid rfl⟩
  obtain ⟨ps, hps⟩ : ∃ q, Hid (posP S (x, y) = q) := ⟨_, Lib.hid rfl⟩
  obtain ⟨fo, hfo⟩ : ∃ q, Hid (hasP S (x, y) = q) := ⟨_, Lib.hid rfl⟩
  rw [hn.out] at hl ⊢
  rw [hps.out, hfo.out]
  go_enter Tryd.func88, Tryd.ntmps88
  go_wp2_with fail
  go_loopg [9, 10] n (fun kx s9 s10 wr => ∃ lo hi : Nat, s9 = .int .i64 lo ∧ s10 = .int .i64 hi ∧ lo ≤ hi ∧ hi ≤ n ∧ hi - lo ≤ kx ∧ wr.cell? ⟨w.heap.size, 0, none⟩ = some (.int .i64 x) ∧ wr.cell? ⟨w.heap.size, 1, none⟩ = some (.int .i64 y) ∧ w.heap.size < wr.heap.size ∧ Hid (Below w.heap.size w wr) ∧
    Hid ((∀ t, t < lo → ltP (S.getD t nop) (x, y) = true) ∧ (∀ t, hi ≤ t → t < S.length → ltP (S.getD t nop) (x, y) = false)))
  case atStart => exact ⟨0, n, rfl, rfl, Nat.zero_le _, Nat.le_refl _, by omega, by go_simp, by go_simp, by simp, Lib.hid ((Below.refl _ _).alloc (Nat.le_refl _) _), Lib.hid ⟨fun t ht => absurd ht (Nat.not_lt_zero _), fun t h1 h2 => by have := hn.out; omega⟩⟩
  case round =>
    obtain ⟨lo, hi, rfl, rfl, hlh, hin, hgap, x0, x1, hs, hnx, I⟩ := hrel
    by_cases hlt : lo < hi
    · obtain ⟨m, hm⟩ : ∃ m, m = (lo + hi) / 2 := ⟨_, rfl⟩
      have em : ((lo : Int) + (hi : Int)) / 2 = (m : Int) := by omega
      have hm1 : m < n := by omega
      have hm2 : lo ≤ m := by omega
      have hm3 : m < hi := by omega
      clear hm
      have em := Lib.hid em
      obtain ⟨sq, ua, un, uc, q0, q1, q2, q3⟩ := h.out m (by rw [hn.out]; exact hm1)
      have q0 := (hnx.out.cell (p := ⟨g, off + m * 4, none⟩) hg).trans q0
      have q1 := (hnx.out.cell (p := ⟨g, off + m * 4 + 1, none⟩) hg).trans q1
      have q2 := (hnx.out.cell (p := ⟨g, off + m * 4 + 2, none⟩) hg).trans q2
      have q3 := (hnx.out.cell (p := ⟨g, off + m * 4 + 3, none⟩) hg).trans q3
      obtain ⟨c, hc⟩ : ∃ c, Hid (S.getD m nop = c) := ⟨_, Lib.hid rfl⟩
      rw [hc.out] at q0 q1
      obtain ⟨p, r⟩ := c
      dsimp only at q0 q1
      have sc := cid_any p r sq ua un uc x y
      have en := cmpI_neg p r x y
      obtain ⟨z, hz⟩ : ∃ z, cmpI p r x y = z := ⟨_, rfl⟩
      rw [hz] at sc en
      have en2 : (z < 0) = (ltB p r x y = true) := by rw [← en]; simp
      have hm0 : (0 : Int) ≤ (m : Int) := by omega
      have hm4 : (m : Int) ≤ (n : Int) := by omega
      have hm5 : (m : Int) < (n : Int) := by omega
      clear en hz
      have S0 : Hid ((wr.cell? ⟨w.heap.size, 0, none⟩ = some (.int .i64 x) ∧ wr.cell? ⟨w.heap.size, 1, none⟩ = some (.int .i64 y) ∧ wr.cell? ⟨g, off + m * 4, none⟩ = some (.int .i64 p) ∧ wr.cell? ⟨g, off + m * 4 + 1, none⟩ = some (.int .i64 r) ∧ wr.cell? ⟨g, off + m * 4 + 2, none⟩ = some (.int .i64 sq) ∧ wr.cell? ⟨g, off + m * 4 + 3, none⟩ = some (.slice ua un uc)) ∧ w.heap.size < wr.heap.size ∧ Below w.heap.size w wr) := Lib.hid ⟨⟨x0, x1, q0, q1, q2, q3⟩, hs, hnx.out⟩
      by_cases hb : ltB p r x y = true
      · have hz : z < 0 := by rw [en2]; exact hb
        have J := Lib.hid (nbin_lo hA.out (m := m) (by rw [hn.out]; exact hm1) (show ltP (S.getD m nop) (x, y) = true by rw [hc.out]; exact hb))
        clear en2 hb h x0 x1 q0 q1 q2 q3 hs hnx
        go_upto_region 5 with fail
        go_region_held3 (fun w' => (w'.cell? ⟨w.heap.size, 0, none⟩ = some (.int .i64 x) ∧ w'.cell? ⟨w.heap.size, 1, none⟩ = some (.int .i64 y) ∧ w'.cell? ⟨g, off + m * 4, none⟩ = some (.int .i64 p) ∧ w'.cell? ⟨g, off + m * 4 + 1, none⟩ = some (.int .i64 r) ∧ w'.cell? ⟨g, off + m * 4 + 2, none⟩ = some (.int .i64 sq) ∧ w'.cell? ⟨g, off + m * 4 + 3, none⟩ = some (.slice ua un uc)) ∧ w.heap.size < w'.heap.size ∧ Below w.heap.size w w') (first | exact nbinS_drew S0.out rfl | exact nbinS_up (by assumption) (by assumption))
          (first | (go_at_call 89; (with_reducible refine (sc _).mono ?_); rintro e w' ⟨rfl, hb⟩))
        rename_i hHeld
        go_wp2_with fail
        go_roundg (hi - (m + 1))
        case measure => omega
        case rel => exact ⟨m + 1, hi, by go_num, rfl, by omega, hin, Nat.le_refl _, hHeld.1.1, hHeld.1.2.1, hHeld.2.1, Lib.hid hHeld.2.2, Lib.hid ⟨J.out, I.out.2⟩⟩
      · have hz : ¬ z < 0 := by rw [en2]; exact hb
        have J := Lib.hid (nbin_hi hA.out (m := m) (show ltP (S.getD m nop) (x, y) = false by rw [hc.out]; simpa [ltP] using hb))
        clear en2 hb h x0 x1 q0 q1 q2 q3 hs hnx
        go_upto_region 5 with fail
        go_region_held3 (fun w' => (w'.cell? ⟨w.heap.size, 0, none⟩ = some (.int .i64 x) ∧ w'.cell? ⟨w.heap.size, 1, none⟩ = some (.int .i64 y) ∧ w'.cell? ⟨g, off + m * 4, none⟩ = some (.int .i64 p) ∧ w'.cell? ⟨g, off + m * 4 + 1, none⟩ = some (.int .i64 r) ∧ w'.cell? ⟨g, off + m * 4 + 2, none⟩ = some (.int .i64 sq) ∧ w'.cell? ⟨g, off + m * 4 + 3, none⟩ = some (.slice ua un uc)) ∧ w.heap.size < w'.heap.size ∧ Below w.heap.size w w') (first | exact nbinS_drew S0.out rfl | exact nbinS_up (by assumption) (by assumption))
          (first | (go_at_call 89; (with_reducible refine (sc _).mono ?_); rintro e w' ⟨rfl, hb⟩))
        rename_i hHeld
        go_wp2_with fail
        go_roundg (m - lo)
        case measure => omega
        case rel => exact ⟨lo, m, rfl, rfl, by omega, by omega, Nat.le_refl _, hHeld.1.1, hHeld.1.2.1, hHeld.2.1, Lib.hid hHeld.2.2, Lib.hid ⟨I.out.1, J.out⟩⟩
    · obtain ⟨m, rfl⟩ : ∃ m, m = hi := ⟨_, rfl⟩
      obtain rfl : lo = m := by omega
      obtain ⟨m, rfl⟩ : ∃ m, m = lo := ⟨_, rfl⟩
      have hp : posP S (x, y) = m := posP_of (by rw [hn.out]; exact hin) I.out.1 I.out.2
      have ep := hps.out
      rw [hp] at ep
      subst ep
      have hfo' := hfo.out
      clear hps I
      by_cases hlt2 : m < n
      · obtain ⟨sq, ua, un, uc, q0, q1, q2, q3⟩ := h.out m (by rw [hn.out]; exact hlt2)
        have q0 := (hnx.out.cell (p := ⟨g, off + m * 4, none⟩) hg).trans q0
        have q1 := (hnx.out.cell (p := ⟨g, off + m * 4 + 1, none⟩) hg).trans q1
        have q2 := (hnx.out.cell (p := ⟨g, off + m * 4 + 2, none⟩) hg).trans q2
        have q3 := (hnx.out.cell (p := ⟨g, off + m * 4 + 3, none⟩) hg).trans q3
        obtain ⟨c, hc⟩ : ∃ c, Hid (S.getD m nop = c) := ⟨_, Lib.hid rfl⟩
        rw [hc.out] at q0 q1
        obtain ⟨p, r⟩ := c
        dsimp only at q0 q1
        have sc := cid_any p r sq ua un uc x y
        have ez := cmpI_zero p r x y
        obtain ⟨z, hz⟩ : ∃ z, cmpI p r x y = z := ⟨_, rfl⟩
        rw [hz] at sc ez
        have hm0 : (0 : Int) ≤ (m : Int) := by omega
        have hm5 : (m : Int) < (n : Int) := by omega
        have S0 : Hid ((wr.cell? ⟨w.heap.size, 0, none⟩ = some (.int .i64 x) ∧ wr.cell? ⟨w.heap.size, 1, none⟩ = some (.int .i64 y) ∧ wr.cell? ⟨g, off + m * 4, none⟩ = some (.int .i64 p) ∧ wr.cell? ⟨g, off + m * 4 + 1, none⟩ = some (.int .i64 r) ∧ wr.cell? ⟨g, off + m * 4 + 2, none⟩ = some (.int .i64 sq) ∧ wr.cell? ⟨g, off + m * 4 + 3, none⟩ = some (.slice ua un uc)) ∧ w.heap.size < wr.heap.size ∧ Below w.heap.size w wr) := Lib.hid ⟨⟨x0, x1, q0, q1, q2, q3⟩, hs, hnx.out⟩
        clear hz x0 x1 q0 q1 q2 q3 hs hnx h
        have hml : m < S.length := by rw [hn.out]; exact hlt2
        by_cases e0 : z = 0
        · obtain ⟨rfl, rfl⟩ := ez.1 e0
          rw [nbin_in hA.out hp hml hc.out] at hfo'
          subst hfo'
          subst e0
          clear ez hp hml hc hfo hA hn
          go_upto_region 8 with fail
          go_region_held3 (fun w' => (w'.cell? ⟨w.heap.size, 0, none⟩ = some (.int .i64 p) ∧ w'.cell? ⟨w.heap.size, 1, none⟩ = some (.int .i64 r) ∧ w'.cell? ⟨g, off + m * 4, none⟩ = some (.int .i64 p) ∧ w'.cell? ⟨g, off + m * 4 + 1, none⟩ = some (.int .i64 r) ∧ w'.cell? ⟨g, off + m * 4 + 2, none⟩ = some (.int .i64 sq) ∧ w'.cell? ⟨g, off + m * 4 + 3, none⟩ = some (.slice ua un uc)) ∧ w.heap.size < w'.heap.size ∧ Below w.heap.size w w') (first | exact nbinS_drew S0.out rfl | exact nbinS_up (by assumption) (by assumption))
            (first | (go_at_call 89; (with_reducible refine (sc _).mono ?_); rintro e w' ⟨rfl, hb⟩))
          rename_i hHeld
          go_wp2_with fail
          go_ret2
          exact ⟨rfl, hHeld.2.2⟩
        · have hne : ¬ (m < S.length ∧ S.getD m nop = (x, y)) := fun hh => e0 (ez.2 (by have := hc.out.symm.trans hh.2; exact ⟨congrArg Prod.fst this, congrArg Prod.snd this⟩))
          rw [nbin_out hA.out hp hne] at hfo'
          subst hfo'
          clear ez hp hml hc hfo hA hn hne
          go_upto_region 8 with fail
          go_region_held3 (fun w' => (w'.cell? ⟨w.heap.size, 0, none⟩ = some (.int .i64 x) ∧ w'.cell? ⟨w.heap.size, 1, none⟩ = some (.int .i64 y) ∧ w'.cell? ⟨g, off + m * 4, none⟩ = some (.int .i64 p) ∧ w'.cell? ⟨g, off + m * 4 + 1, none⟩ = some (.int .i64 r) ∧ w'.cell? ⟨g, off + m * 4 + 2, none⟩ = some (.int .i64 sq) ∧ w'.cell? ⟨g, off + m * 4 + 3, none⟩ = some (.slice ua un uc)) ∧ w.heap.size < w'.heap.size ∧ Below w.heap.size w w') (first | exact nbinS_drew S0.out rfl | exact nbinS_up (by assumption) (by assumption))
            (first | (go_at_call 89; (with_reducible refine (sc _).mono ?_); rintro e w' ⟨rfl, hb⟩))
          rename_i hHeld
          go_wp2_with fail
          go_ret2
          exact ⟨by simp [e0], hHeld.2.2⟩
      · rw [nbin_out hA.out hp (fun hh => hlt2 (by rw [← hn.out]; exact hh.1))] at hfo'
        subst hfo'
        have hd : decide (m < n) = false := by simpa using hlt2
        clear hp hfo hA hn h
        go_wp2_with fail
        go_quiet (fail)
        go_wp2_with fail
        go_ret2
        exact ⟨rfl, bdrewN hnx.out _⟩

/-- .. of valid nodes. -/
theorem nbin_any (g off cap : Nat) (N : List Nd) (x y : Int) (w : World) (hA : Asc (idsN N)) (hg : g < w.heap.size) (hl : N.length ≤ 2000000) (h : ∀ i, i < N.length → NdIn w g (off + i * 4) (N.getD i nd0)) :
    Calls Tryd.prog 88 #[.slice (some ⟨g, off, none⟩) N.length cap, .agg #[.int .i64 x, .int .i64 y], .func (.func 89) #[] #[]] w fun e w' =>
      e = .returned (.tuple #[.int .i64 (posP (idsN N) (x, y)), .bool (hasP (idsN N) (x, y))]) ∧ Below w.heap.size w w' := by
  rw [← idsN_len N] at hl ⊢
  refine nbin_at g off cap (idsN N) x y w hA hg hl (fun i hi => ?_)
  rw [idsN_len] at hi
  obtain ⟨ua, un, uc, h0, h1, h2, h3, _⟩ := h i hi
  rw [idsN_get hi]
  exact ⟨_, ua, un, uc, h0, h1, h2, h3⟩
end Go.Proofs.YtbbnchodchgioaaDoor

/- The program's place. -/
namespace Go.Proofs.YtbbnchodchgioaaDoor
open Go.RowKit
set_option linter.unusedVariables false

set_option maxRecDepth 100000 in
set_option maxHeartbeats 2000000 in
theorem place_any (fb g off cap : Nat) (N : List Nd) (x y : Int) (w : World) (hv : nodB N = true) (hg : g < w.heap.size) (h : ∀ i, i < N.length → NdIn w g (off + i * 4) (N.getD i nd0))
    (f0 : w.cell? ⟨fb, 0, none⟩ = some (.slice (some ⟨g, off, none⟩) N.length cap)) :
    Calls Tryd.prog 82 #[.pointer (some ⟨fb, 0, none⟩), .agg #[.int .i64 x, .int .i64 y]] w fun e w' =>
      e = .returned (.tuple #[.int .i64 (posP (idsN N) (x, y)), .bool (hasP (idsN N) (x, y))]) ∧ Below w.heap.size w w' := by
  have hA := (nod_of hv).2.2
  have hl := (nod_of hv).1
  have nb := fun W (hB : Below w.heap.size w W) => nbin_any g off cap N x y W hA (Nat.lt_of_lt_of_le hg hB.size) (by omega) (fun i hi => (h i hi).up hB (Nat.le_refl _) hg)
  obtain ⟨n, hn⟩ : ∃ n, Hid (N.length = n) := ⟨_, Lib.hid rfl⟩
  obtain ⟨ps, hps⟩ : ∃ q, Hid (posP (idsN N) (x, y) = q) := ⟨_, Lib.hid rfl⟩
  obtain ⟨fo, hfo⟩ : ∃ q, Hid (hasP (idsN N) (x, y) = q) := ⟨_, Lib.hid rfl⟩
  rw [hn.out] at f0 nb
  rw [hps.out, hfo.out] at nb ⊢
  have hB := Lib.hid ((Below.refl w.heap.size w).alloc (Nat.le_refl _) (.cells #[.int .i64 x, .int .i64 y] 25))
  have f0 : (w.alloc (.cells #[.int .i64 x, .int .i64 y] 25)).cell? ⟨fb, 0, none⟩ = some (.slice (some ⟨g, off, none⟩) n cap) := cell_later hB.out f0
  obtain ⟨a0, a1, _, _⟩ := blk2 (heap_alloc_new w (.cells #[.int .i64 x, .int .i64 y] 25))
  have nb := fun W (H : Below w.heap.size w W) => (nb W H)
  clear h hA hl hv hn hps hfo
  go_enter Tryd.func82, Tryd.ntmps82
  go_upto_region 1 with fail
  refine wp_region_held_drew (S := fun w' => w'.cell? ⟨fb, 0, none⟩ = some (.slice (some ⟨g, off, none⟩) n cap) ∧ w'.cell? ⟨w.heap.size, 0, none⟩ = some (.int .i64 x) ∧ w'.cell? ⟨w.heap.size, 1, none⟩ = some (.int .i64 y) ∧ Below (w.alloc (.cells #[.int .i64 x, .int .i64 y] 25)).heap.size (w.alloc (.cells #[.int .i64 x, .int .i64 y] 25)) w') (by kernel_rfl) ⟨f0, a0, a1, Below.drew (Below.refl _ _)⟩ (fun hHeld => ?_)
  refine wpAnyH_take (i := 0) (oi := ⟨some 6, _, _, _, _, _⟩) (v := ?_) rfl (by kernel_rfl) (by kernel_rfl) (by kernel_rfl) (fun _ _ _ h => h) (Or.inl ⟨by rfl, ?_⟩) (by assumption) ?_
  rotate_left 1
  · intro w hSw; (try dsimp only at hSw); go_simp; try (with_reducible rfl)
  try simp only [Act.put, List.setIfInBounds_toArray, List.set_cons_zero, List.set_cons_succ]
  refine wpAnyH_take (i := 1) (oi := ⟨some 7, _, _, _, _, _⟩) (v := ?_) rfl (by kernel_rfl) (by kernel_rfl) (by kernel_rfl) (fun _ _ _ h => h) (Or.inl ⟨by rfl, ?_⟩) (by assumption) ?_
  rotate_left 1
  · intro w hSw; (try dsimp only at hSw); go_simp; try (with_reducible rfl)
  try simp only [Act.put, List.setIfInBounds_toArray, List.set_cons_zero, List.set_cons_succ]
  refine wpAnyH_take (i := 2) (oi := ⟨some 8, _, _, _, _, _⟩) (v := ?_) rfl (by kernel_rfl) (by kernel_rfl) (by kernel_rfl) (fun _ _ _ h => h) (Or.inl ⟨by rfl, ?_⟩) (by assumption) ?_
  rotate_left 1
  · intro w hSw; (try dsimp only at hSw); go_simp; try (with_reducible rfl)
  try simp only [Act.put, List.setIfInBounds_toArray, List.set_cons_zero, List.set_cons_succ]
  refine wpAnyH_take (i := 3) (oi := ⟨some 9, _, _, _, _, _⟩) (v := ?_) rfl (by kernel_rfl) (by kernel_rfl) (by kernel_rfl) (fun _ _ _ h => h) (Or.inl ⟨by rfl, ?_⟩) (by assumption) ?_
  rotate_left 1
  · intro w hSw; (try dsimp only at hSw); go_simp; try (with_reducible rfl)
  try simp only [Act.put, List.setIfInBounds_toArray, List.set_cons_zero, List.set_cons_succ]
  refine wpAnyH_take (i := 4) (oi := ⟨some 10, _, _, _, _, _⟩) (v := ?_) rfl (by kernel_rfl) (by kernel_rfl) (by kernel_rfl) (fun _ _ _ h => h) (Or.inl ⟨by rfl, ?_⟩) (by assumption) ?_
  rotate_left 1
  · intro w hSw; (try dsimp only at hSw); go_simp; try (with_reducible rfl)
  try simp only [Act.put, List.setIfInBounds_toArray, List.set_cons_zero, List.set_cons_succ]
  refine wpAnyH_ready (rs := [5]) (by kernel_rfl) (by simp) ?_
  refine AllReadyH.cons (o := ⟨some 11, _, _, _, _, _⟩) rfl (fun K hK => ?_) AllReadyH.nil
  go_simp
  refine (nb _ (hB.out.trans (hHeld.2.2.2.mono hB.out.size))).mono ?_
  rintro e w2 ⟨rfl, hb⟩
  go_wp2_with fail
  refine hK.out _ _ ?_ (fun hHeld2 => ?_)
  · exact ⟨cell_later hb hHeld.1, cell_later hb hHeld.2.1, cell_later hb hHeld.2.2.1, hHeld.2.2.2.trans (hb.mono hHeld.2.2.2.size)⟩
  clear hK K hHeld hb
  have hHeld := hHeld2
  clear hHeld2
  try simp only [Act.put, List.setIfInBounds_toArray, List.set_cons_zero, List.set_cons_succ]
  refine wpAnyH_take (i := 6) (oi := ⟨some 12, _, _, _, _, _⟩) (v := ?_) rfl (by kernel_rfl) (by kernel_rfl) (by kernel_rfl) (fun _ _ _ h => h) (Or.inl ⟨by rfl, ?_⟩) (by assumption) ?_
  rotate_left 1
  · intro w hSw; (try dsimp only at hSw); go_simp; try (with_reducible rfl)
  try simp only [Act.put, List.setIfInBounds_toArray, List.set_cons_zero, List.set_cons_succ]
  refine wpAnyH_take (i := 7) (oi := ⟨some 13, _, _, _, _, _⟩) (v := ?_) rfl (by kernel_rfl) (by kernel_rfl) (by kernel_rfl) (fun _ _ _ h => h) (Or.inl ⟨by rfl, ?_⟩) (by assumption) ?_
  rotate_left 1
  · intro w hSw; (try dsimp only at hSw); go_simp; try (with_reducible rfl)
  try simp only [Act.put, List.setIfInBounds_toArray, List.set_cons_zero, List.set_cons_succ]
  refine wpAnyH_take (i := 8) (oi := ⟨some 4, _, _, _, _, _⟩) (v := ?_) rfl (by kernel_rfl) (by kernel_rfl) (by kernel_rfl) (fun _ _ _ h => h) (Or.inl ⟨by rfl, ?_⟩) (by assumption) ?_
  rotate_left 1
  · intro w hSw; (try dsimp only at hSw); go_simp; try (with_reducible rfl)
  try simp only [Act.put, List.setIfInBounds_toArray, List.set_cons_zero, List.set_cons_succ]
  refine wpAnyH_take (i := 9) (oi := ⟨some 5, _, _, _, _, _⟩) (v := ?_) rfl (by kernel_rfl) (by kernel_rfl) (by kernel_rfl) (fun _ _ _ h => h) (Or.inl ⟨by rfl, ?_⟩) (by assumption) ?_
  rotate_left 1
  · intro w hSw; (try dsimp only at hSw); go_simp; try (with_reducible rfl)
  try simp only [Act.put, List.setIfInBounds_toArray, List.set_cons_zero, List.set_cons_succ]
  refine wpAnyH_done (by kernel_rfl) ?_ _
  try simp only [Act.put, List.setIfInBounds_toArray, List.set_cons_zero, List.set_cons_succ]
  have D := Lib.hid (hB.out.trans (hHeld.2.2.2.mono hB.out.size))
  clear hHeld nb
  go_wp2_with fail
  go_ret2
  exact ⟨rfl, D.out⟩
end Go.Proofs.YtbbnchodchgioaaDoor
