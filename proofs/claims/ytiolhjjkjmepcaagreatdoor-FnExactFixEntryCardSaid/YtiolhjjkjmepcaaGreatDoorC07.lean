/- Texts laid together. -/
import Derived.Test.YtiolhjjkjmepcaaGreatDoorC06
import Derived.Test.YtiolhjjkjmepcaaGreatDoorC08
import Derived.Deep.RegionWith
import Derived.LaidEql
import Derived.Stop.Asserts
import Derived.RowKitTokens
import Derived.Test.YtiolhjjkjmepcaaGreatDoorC09
import Derived.Maps.RangeWalk
import Derived.Test.YtiolhjjkjmepcaaGreatDoorCards
import Derived.Test.YtiolhjjkjmepcaaGreatDoorTie
import Derived.Test.YtiolhjjkjmepcaaGreatDoorC23
import Derived.ProofKit
import Derived.OpenShut
import Derived.ChangeOld
import Derived.Stop.LaidErr
import Derived.Stop.LaidTwo
import Derived.WalkSmall
import Derived.Deep.DeepHandedRow
import Derived.Deep.DeepWitnessRowRef
import Derived.LaidMore
import Derived.Lib.LaidTab
import Derived.Lib.SmallJoins
/- What a log's book holds; bookOf, whatever entries there are. -/
namespace Go.Proofs.YtiolhjjkjmepcaaGreatDoor
open Go.RowKit
set_option linter.unusedVariables false

theorem mapE_none {E : List En} {U : Nat → Value} {a : Pid} : ∀ n, (∀ k, k < n → ¬ (E.getD k en0).id = a) → mapE E U n a = none
  | 0, _ => rfl
  | n + 1, h => by
    unfold mapE
    rw [if_neg (fun e => h n (Nat.lt_succ_self n) e.symm)]
    exact mapE_none n fun k hk => h k (Nat.lt_succ_of_lt hk)
theorem mapE_some {E : List En} {U : Nat → Value} {a : Pid} {k : Nat} (hu : ∀ j, (E.getD j en0).id = a → j < E.length → j = k) : ∀ n, n ≤ E.length → k < n → (E.getD k en0).id = a → mapE E U n a = some (env (E.getD k en0) (U k))
  | 0, _, h, _ => absurd h (Nat.not_lt_zero _)
  | n + 1, hl, hk, e => by
    unfold mapE
    by_cases hn : a = (E.getD n en0).id
    · rw [if_pos hn, hu n hn.symm (by omega)]
    · rw [if_neg hn]
      have : k ≠ n := fun h => hn (by rw [← h]; exact e.symm)
      exact mapE_some hu n (by omega) (by omega) e
/-- What is looked up in a log's book. -/
theorem mapE_look {E : List En} (hv : logB E = true) (U : Nat → Value) (a : Pid) : (∃ k, k < E.length ∧ (E.getD k en0).id = a ∧ mapE E U E.length a = some (env (E.getD k en0) (U k))) ∨ ((∀ k, k < E.length → ¬ (E.getD k en0).id = a) ∧ mapE E U E.length a = none) := by
  by_cases h : ∃ k, k < E.length ∧ (E.getD k en0).id = a
  · obtain ⟨k, hk, e⟩ := h
    exact .inl ⟨k, hk, e, mapE_some (fun j hj hl => log_inj hv hl hk (hj.trans e.symm)) _ (Nat.le_refl _) hk e⟩
  · have h' : ∀ k, k < E.length → ¬ (E.getD k en0).id = a := fun k hk e => h ⟨k, hk, e⟩
    exact .inr ⟨h', mapE_none _ h'⟩
/-- What bookOf leaves, whatever entries there are. -/
theorem ibook_any (u : Value) (E : List En) (w : World) (h : Ens w u E) :
    ∃ U, (∀ k, k < E.length → Ids w (U k) (E.getD k en0).deps) ∧ Calls Tryz.prog 43 #[u] w (BkPost E U w) := by
  obtain ⟨a, cap, rfl, h1, h2, h3⟩ := h
  rcases h3 with h3 | ⟨b, off, U, rfl, h4⟩
  · obtain rfl : E = [] := List.length_eq_zero_iff.1 h3
    exact ⟨fun _ => .slice none 0 0, fun k hk => absurd hk (Nat.not_lt_zero _), ibook_nil a cap _ w⟩
  · exact ⟨U, fun k hk => (h4.at_ k hk).ids, ibook_at b off cap E U w h2 h4⟩
end Go.Proofs.YtiolhjjkjmepcaaGreatDoor

/- impl.bookFor. -/
namespace Go.Proofs.YtiolhjjkjmepcaaGreatDoor
open Go.RowKit
set_option linter.unusedVariables false

/-- What bookFor leaves. -/
def BfP (E : List En) (U : Nat → Value) (X : En) (s : Int) (w : World) (e : Ending) (w' : World) : Prop :=
  ((logB E = true ∧ ∃ bb, w.heap.size ≤ bb ∧ e = .returned (.tuple #[.map (some bb), .bool (enB X && decide (X.st = s))]) ∧ Book w' bb E.length (mapE E U E.length)) ∨ (logB E = false ∧ e = .returned (.tuple #[.map none, .bool false]))) ∧ Below w.heap.size w w'
/-- bookOf in every later world: the lists of ids are the same. -/
theorem ibookU_any (u : Value) (E : List En) (w : World) (h : Ens w u E) :
    ∃ U, (∀ k, k < E.length → Ids w (U k) (E.getD k en0).deps) ∧ ∀ W, Below w.heap.size w W → Calls Tryz.prog 43 #[u] W (BkPost E U W) := by
  obtain ⟨a, cap, rfl, h1, h2, h3⟩ := h
  rcases h3 with h3 | ⟨b, off, U, rfl, h4⟩
  · obtain rfl : E = [] := List.length_eq_zero_iff.1 h3
    exact ⟨fun _ => .slice none 0 0, fun k hk => absurd hk (Nat.not_lt_zero _), fun W _ => ibook_nil a cap _ W⟩
  · exact ⟨U, fun k hk => (h4.at_ k hk).ids, fun W hb => ibook_at b off cap E U W h2 (h4.up hb (Nat.le_refl _))⟩
set_option maxRecDepth 100000 in
set_option maxHeartbeats 8000000 in
theorem ibookfor_any (u ux : Value) (E : List En) (X : En) (s : Int) (w : World) (h : Ens w u E) (hu : Ids w ux X.deps) :
    ∃ U, (∀ k, k < E.length → Ids w (U k) (E.getD k en0).deps) ∧ Calls Tryz.prog 35 #[u, env X ux, .int .i64 s] w (BfP E U X s w) := by
  obtain ⟨xa, xn, xc, rfl⟩ : ∃ ua un uc, ux = .slice ua un uc := by obtain ⟨a, c, e, _⟩ := hu; exact ⟨a, _, c, e⟩
  obtain ⟨ua0, uc0, rfl⟩ : ∃ a c, u = .slice a E.length c := by obtain ⟨a, c, e, _⟩ := h; exact ⟨a, c, e⟩
  have D0 := (Below.refl w.heap.size w).alloc (Nat.le_refl _) (.cells #[.int .i64 X.id.1, .int .i64 X.id.2, .int .i64 X.bal, .int .i64 X.st, .int .i64 X.k, .int .i64 X.key, .int .i64 X.v, .int .i64 X.seq, .slice xa xn xc] 30)
  obtain ⟨U, hU, bk⟩ := ibookU_any _ E w h
  obtain ⟨l, hl⟩ : ∃ n, Hid (E.length = n) := ⟨_, Lib.hid rfl⟩
  refine ⟨U, hU, ?_⟩
  replace bk := bk _ D0
  unfold BkPost at bk
  unfold BfP
  rw [hl.out] at bk ⊢
  have A0 := Lib.hid (heap_alloc_new w (.cells #[.int .i64 X.id.1, .int .i64 X.id.2, .int .i64 X.bal, .int .i64 X.st, .int .i64 X.k, .int .i64 X.key, .int .i64 X.v, .int .i64 X.seq, .slice xa xn xc] 30))
  have hI := Lib.hid (hu.up D0 (Nat.le_refl _))
  have D := Lib.hid D0
  clear h hu hU D0
  unfold env
  obtain ⟨q, hq⟩ : ∃ q, Hid (logB E = q) := ⟨_, Lib.hid rfl⟩
  obtain ⟨p, hp⟩ : ∃ q, Hid (enB X = q) := ⟨_, Lib.hid rfl⟩
  rw [hq.out] at bk
  go_enter Tryz.func35, Tryz.ntmps35
  go_upto_region 1 with fail
  generalize w.alloc (.cells #[.int .i64 X.id.1, .int .i64 X.id.2, .int .i64 X.bal, .int .i64 X.st, .int .i64 X.k, .int .i64 X.key, .int .i64 X.v, .int .i64 X.seq, .slice xa xn xc] 30) = w1 at A0 hI D bk ⊢
  go_wp2_with fail
  refine bk.mono ?_
  rintro e wB ⟨hcase, B⟩
  have A := Lib.hid (bblk B (lt_of_heap A0.out) A0.out)
  have ev := fun W (hb : Below wB.heap.size wB W) => ievalid_any X (.slice xa xn xc) W (hI.out.up (bstep B hb) (Nat.le_refl _))
  unfold env at ev
  simp only [hp.out] at ev
  have hs1 := D.out.size
  replace D := Lib.hid (bstep D.out B)
  clear B A0 bk hI
  obtain ⟨⟨y0, y1, y2, y3, y4, y5, y6, y7, y8⟩, _, yl⟩ := nine_all A.out
  rcases hcase with ⟨hqt, bb, hbb, rfl, hB⟩ | ⟨hqf, rfl⟩
  · subst hqt
    have hB := Lib.hid hB
    cases p
    · go_upto_region 2 with fail
      refine wp_region_held_drew (S := fun w' => w'.cell? ⟨w.heap.size, 0, none⟩ = some (.int .i64 X.id.1) ∧ w'.cell? ⟨w.heap.size, 1, none⟩ = some (.int .i64 X.id.2) ∧ w'.cell? ⟨w.heap.size, 2, none⟩ = some (.int .i64 X.bal) ∧ w'.cell? ⟨w.heap.size, 3, none⟩ = some (.int .i64 X.st) ∧ w'.cell? ⟨w.heap.size, 4, none⟩ = some (.int .i64 X.k) ∧ w'.cell? ⟨w.heap.size, 5, none⟩ = some (.int .i64 X.key) ∧ w'.cell? ⟨w.heap.size, 6, none⟩ = some (.int .i64 X.v) ∧ w'.cell? ⟨w.heap.size, 7, none⟩ = some (.int .i64 X.seq) ∧ w'.cell? ⟨w.heap.size, 8, none⟩ = some (.slice xa xn xc) ∧ Below wB.heap.size wB w') (by kernel_rfl) ⟨y0, y1, y2, y3, y4, y5, y6, y7, y8, Below.drew (Below.refl _ _)⟩ (fun hHeld => ?_)
      refine wpAnyH_take (i := 0) (oi := ⟨some 15, _, _, _, _, _⟩) (v := ?_) rfl (by kernel_rfl) (by kernel_rfl) (by kernel_rfl) (fun _ _ _ h => h) (Or.inl ⟨by rfl, ?_⟩) (by assumption) ?_
      rotate_left 1
      · intro w hSw; (try dsimp only at hSw); go_simp; try (with_reducible rfl)
      try simp only [Act.put, List.setIfInBounds_toArray, List.set_cons_zero, List.set_cons_succ]
      refine wpAnyH_take (i := 1) (oi := ⟨some 16, _, _, _, _, _⟩) (v := ?_) rfl (by kernel_rfl) (by kernel_rfl) (by kernel_rfl) (fun _ _ _ h => h) (Or.inl ⟨by rfl, ?_⟩) (by assumption) ?_
      rotate_left 1
      · intro w hSw; (try dsimp only at hSw); go_simp; try (with_reducible rfl)
      try simp only [Act.put, List.setIfInBounds_toArray, List.set_cons_zero, List.set_cons_succ]
      refine wpAnyH_take (i := 2) (oi := ⟨some 17, _, _, _, _, _⟩) (v := ?_) rfl (by kernel_rfl) (by kernel_rfl) (by kernel_rfl) (fun _ _ _ h => h) (Or.inl ⟨by rfl, ?_⟩) (by assumption) ?_
      rotate_left 1
      · intro w hSw; (try dsimp only at hSw); go_simp; try (with_reducible rfl)
      try simp only [Act.put, List.setIfInBounds_toArray, List.set_cons_zero, List.set_cons_succ]
      refine wpAnyH_take (i := 3) (oi := ⟨some 18, _, _, _, _, _⟩) (v := ?_) rfl (by kernel_rfl) (by kernel_rfl) (by kernel_rfl) (fun _ _ _ h => h) (Or.inl ⟨by rfl, ?_⟩) (by assumption) ?_
      rotate_left 1
      · intro w hSw; (try dsimp only at hSw); go_simp; try (with_reducible rfl)
      try simp only [Act.put, List.setIfInBounds_toArray, List.set_cons_zero, List.set_cons_succ]
      refine wpAnyH_ready (rs := [4]) (by kernel_rfl) (by simp) ?_
      refine AllReadyH.cons (o := ⟨some 19, _, _, _, _, _⟩) rfl (fun K hK => ?_) AllReadyH.nil
      go_simp
      with_reducible refine (ev _ hHeld.2.2.2.2.2.2.2.2.2).mono ?_
      rintro e wq ⟨rfl, hb⟩
      go_wp2_with fail
      refine hK.out _ _ ?_ (fun hHeld2 => ?_)
      · exact ⟨cell_later hb hHeld.1, cell_later hb hHeld.2.1, cell_later hb hHeld.2.2.1, cell_later hb hHeld.2.2.2.1, cell_later hb hHeld.2.2.2.2.1, cell_later hb hHeld.2.2.2.2.2.1, cell_later hb hHeld.2.2.2.2.2.2.1, cell_later hb hHeld.2.2.2.2.2.2.2.1, cell_later hb hHeld.2.2.2.2.2.2.2.2.1, hHeld.2.2.2.2.2.2.2.2.2.trans (hb.mono hHeld.2.2.2.2.2.2.2.2.2.size)⟩
      clear hK K hHeld hb
      have hHeld := hHeld2
      clear hHeld2
      try simp only [Act.put, List.setIfInBounds_toArray, List.set_cons_zero, List.set_cons_succ]
      refine wpAnyH_take (i := 5) (oi := ⟨some 20, _, _, _, _, _⟩) (v := ?_) rfl (by kernel_rfl) (by kernel_rfl) (by kernel_rfl) (fun _ _ _ h => h) (Or.inl ⟨by rfl, ?_⟩) (by assumption) ?_
      rotate_left 1
      · intro w hSw; (try dsimp only at hSw); go_simp; try (with_reducible rfl)
      try simp only [Act.put, List.setIfInBounds_toArray, List.set_cons_zero, List.set_cons_succ]
      refine wpAnyH_take (i := 6) (oi := ⟨some 21, _, _, _, _, _⟩) (v := ?_) rfl (by kernel_rfl) (by kernel_rfl) (by kernel_rfl) (fun _ _ _ h => h) (Or.inl ⟨by rfl, ?_⟩) (by assumption) ?_
      rotate_left 1
      · intro w hSw; (try dsimp only at hSw); go_simp; try (with_reducible rfl)
      try simp only [Act.put, List.setIfInBounds_toArray, List.set_cons_zero, List.set_cons_succ]
      refine wpAnyH_take (i := 7) (oi := ⟨some 22, _, _, _, _, _⟩) (v := undef) rfl (by kernel_rfl) (by kernel_rfl) (by kernel_rfl) (fun _ _ _ h => h) (Or.inr ⟨by rfl, rfl⟩) (by assumption) ?_
      try simp only [Act.put, List.setIfInBounds_toArray, List.set_cons_zero, List.set_cons_succ]
      refine wpAnyH_take (i := 8) (oi := ⟨some 23, _, _, _, _, _⟩) (v := undef) rfl (by kernel_rfl) (by kernel_rfl) (by kernel_rfl) (fun _ _ _ h => h) (Or.inr ⟨by rfl, rfl⟩) (by assumption) ?_
      try simp only [Act.put, List.setIfInBounds_toArray, List.set_cons_zero, List.set_cons_succ]
      refine wpAnyH_take (i := 9) (oi := ⟨some 24, _, _, _, _, _⟩) (v := undef) rfl (by kernel_rfl) (by kernel_rfl) (by kernel_rfl) (fun _ _ _ h => h) (Or.inr ⟨by rfl, rfl⟩) (by assumption) ?_
      try simp only [Act.put, List.setIfInBounds_toArray, List.set_cons_zero, List.set_cons_succ]
      refine wpAnyH_take (i := 10) (oi := ⟨some 25, _, _, _, _, _⟩) (v := undef) rfl (by kernel_rfl) (by kernel_rfl) (by kernel_rfl) (fun _ _ _ h => h) (Or.inr ⟨by rfl, rfl⟩) (by assumption) ?_
      try simp only [Act.put, List.setIfInBounds_toArray, List.set_cons_zero, List.set_cons_succ]
      refine wpAnyH_take (i := 11) (oi := ⟨some 26, _, _, _, _, _⟩) (v := ?_) rfl (by kernel_rfl) (by kernel_rfl) (by kernel_rfl) (fun _ _ _ h => h) (Or.inl ⟨by rfl, ?_⟩) (by assumption) ?_
      rotate_left 1
      · intro w hSw; (try dsimp only at hSw); go_simp; try (with_reducible rfl)
      try simp only [Act.put, List.setIfInBounds_toArray, List.set_cons_zero, List.set_cons_succ]
      refine wpAnyH_take (i := 12) (oi := ⟨some 6, _, _, _, _, _⟩) (v := ?_) rfl (by kernel_rfl) (by kernel_rfl) (by kernel_rfl) (fun _ _ _ h => h) (Or.inl ⟨by rfl, ?_⟩) (by assumption) ?_
      rotate_left 1
      · intro w hSw; (try dsimp only at hSw); go_simp; try (with_reducible rfl)
      try simp only [Act.put, List.setIfInBounds_toArray, List.set_cons_zero, List.set_cons_succ]
      refine wpAnyH_take (i := 13) (oi := ⟨some 7, _, _, _, _, _⟩) (v := ?_) rfl (by kernel_rfl) (by kernel_rfl) (by kernel_rfl) (fun _ _ _ h => h) (Or.inl ⟨by rfl, ?_⟩) (by assumption) ?_
      rotate_left 1
      · intro w hSw; (try dsimp only at hSw); go_simp; try (with_reducible rfl)
      try simp only [Act.put, List.setIfInBounds_toArray, List.set_cons_zero, List.set_cons_succ]
      refine wpAnyH_done (by kernel_rfl) ?_ _
      try simp only [Act.put, List.setIfInBounds_toArray, List.set_cons_zero, List.set_cons_succ]
      have H5 := Lib.hid hHeld.2.2.2.2.2.2.2.2.2
      clear hHeld
      go_wp2_with fail
      go_ret2
      exact ⟨.inl ⟨hq.out, bb, Nat.le_trans hs1 hbb, by rw [hp.out]; rfl, hB.out.up H5.out hB.out.lt⟩, bstep D.out H5.out⟩
    · by_cases hst : X.st = s
      · subst hst
        go_upto_region 2 with fail
        refine wp_region_held_drew (S := fun w' => w'.cell? ⟨w.heap.size, 0, none⟩ = some (.int .i64 X.id.1) ∧ w'.cell? ⟨w.heap.size, 1, none⟩ = some (.int .i64 X.id.2) ∧ w'.cell? ⟨w.heap.size, 2, none⟩ = some (.int .i64 X.bal) ∧ w'.cell? ⟨w.heap.size, 3, none⟩ = some (.int .i64 X.st) ∧ w'.cell? ⟨w.heap.size, 4, none⟩ = some (.int .i64 X.k) ∧ w'.cell? ⟨w.heap.size, 5, none⟩ = some (.int .i64 X.key) ∧ w'.cell? ⟨w.heap.size, 6, none⟩ = some (.int .i64 X.v) ∧ w'.cell? ⟨w.heap.size, 7, none⟩ = some (.int .i64 X.seq) ∧ w'.cell? ⟨w.heap.size, 8, none⟩ = some (.slice xa xn xc) ∧ Below wB.heap.size wB w') (by kernel_rfl) ⟨y0, y1, y2, y3, y4, y5, y6, y7, y8, Below.drew (Below.refl _ _)⟩ (fun hHeld => ?_)
        refine wpAnyH_take (i := 0) (oi := ⟨some 15, _, _, _, _, _⟩) (v := ?_) rfl (by kernel_rfl) (by kernel_rfl) (by kernel_rfl) (fun _ _ _ h => h) (Or.inl ⟨by rfl, ?_⟩) (by assumption) ?_
        rotate_left 1
        · intro w hSw; (try dsimp only at hSw); go_simp; try (with_reducible rfl)
        try simp only [Act.put, List.setIfInBounds_toArray, List.set_cons_zero, List.set_cons_succ]
        refine wpAnyH_take (i := 1) (oi := ⟨some 16, _, _, _, _, _⟩) (v := ?_) rfl (by kernel_rfl) (by kernel_rfl) (by kernel_rfl) (fun _ _ _ h => h) (Or.inl ⟨by rfl, ?_⟩) (by assumption) ?_
        rotate_left 1
        · intro w hSw; (try dsimp only at hSw); go_simp; try (with_reducible rfl)
        try simp only [Act.put, List.setIfInBounds_toArray, List.set_cons_zero, List.set_cons_succ]
        refine wpAnyH_take (i := 2) (oi := ⟨some 17, _, _, _, _, _⟩) (v := ?_) rfl (by kernel_rfl) (by kernel_rfl) (by kernel_rfl) (fun _ _ _ h => h) (Or.inl ⟨by rfl, ?_⟩) (by assumption) ?_
        rotate_left 1
        · intro w hSw; (try dsimp only at hSw); go_simp; try (with_reducible rfl)
        try simp only [Act.put, List.setIfInBounds_toArray, List.set_cons_zero, List.set_cons_succ]
        refine wpAnyH_take (i := 3) (oi := ⟨some 18, _, _, _, _, _⟩) (v := ?_) rfl (by kernel_rfl) (by kernel_rfl) (by kernel_rfl) (fun _ _ _ h => h) (Or.inl ⟨by rfl, ?_⟩) (by assumption) ?_
        rotate_left 1
        · intro w hSw; (try dsimp only at hSw); go_simp; try (with_reducible rfl)
        try simp only [Act.put, List.setIfInBounds_toArray, List.set_cons_zero, List.set_cons_succ]
        refine wpAnyH_ready (rs := [4]) (by kernel_rfl) (by simp) ?_
        refine AllReadyH.cons (o := ⟨some 19, _, _, _, _, _⟩) rfl (fun K hK => ?_) AllReadyH.nil
        go_simp
        with_reducible refine (ev _ hHeld.2.2.2.2.2.2.2.2.2).mono ?_
        rintro e wq ⟨rfl, hb⟩
        go_wp2_with fail
        refine hK.out _ _ ?_ (fun hHeld2 => ?_)
        · exact ⟨cell_later hb hHeld.1, cell_later hb hHeld.2.1, cell_later hb hHeld.2.2.1, cell_later hb hHeld.2.2.2.1, cell_later hb hHeld.2.2.2.2.1, cell_later hb hHeld.2.2.2.2.2.1, cell_later hb hHeld.2.2.2.2.2.2.1, cell_later hb hHeld.2.2.2.2.2.2.2.1, cell_later hb hHeld.2.2.2.2.2.2.2.2.1, hHeld.2.2.2.2.2.2.2.2.2.trans (hb.mono hHeld.2.2.2.2.2.2.2.2.2.size)⟩
        clear hK K hHeld hb
        have hHeld := hHeld2
        clear hHeld2
        try simp only [Act.put, List.setIfInBounds_toArray, List.set_cons_zero, List.set_cons_succ]
        refine wpAnyH_take (i := 5) (oi := ⟨some 20, _, _, _, _, _⟩) (v := ?_) rfl (by kernel_rfl) (by kernel_rfl) (by kernel_rfl) (fun _ _ _ h => h) (Or.inl ⟨by rfl, ?_⟩) (by assumption) ?_
        rotate_left 1
        · intro w hSw; (try dsimp only at hSw); go_simp; try (with_reducible rfl)
        try simp only [Act.put, List.setIfInBounds_toArray, List.set_cons_zero, List.set_cons_succ]
        refine wpAnyH_take (i := 6) (oi := ⟨some 21, _, _, _, _, _⟩) (v := ?_) rfl (by kernel_rfl) (by kernel_rfl) (by kernel_rfl) (fun _ _ _ h => h) (Or.inl ⟨by rfl, ?_⟩) (by assumption) ?_
        rotate_left 1
        · intro w hSw; (try dsimp only at hSw); go_simp; try (with_reducible rfl)
        try simp only [Act.put, List.setIfInBounds_toArray, List.set_cons_zero, List.set_cons_succ]
        refine wpAnyH_take (i := 7) (oi := ⟨some 22, _, _, _, _, _⟩) (v := ?_) rfl (by kernel_rfl) (by kernel_rfl) (by kernel_rfl) (fun _ _ _ h => h) (Or.inl ⟨by rfl, ?_⟩) (by assumption) ?_
        rotate_left 1
        · intro w hSw; (try dsimp only at hSw); go_simp; try (with_reducible rfl)
        try simp only [Act.put, List.setIfInBounds_toArray, List.set_cons_zero, List.set_cons_succ]
        refine wpAnyH_take (i := 8) (oi := ⟨some 23, _, _, _, _, _⟩) (v := ?_) rfl (by kernel_rfl) (by kernel_rfl) (by kernel_rfl) (fun _ _ _ h => h) (Or.inl ⟨by rfl, ?_⟩) (by assumption) ?_
        rotate_left 1
        · intro w hSw; (try dsimp only at hSw); go_simp; try (with_reducible rfl)
        try simp only [Act.put, List.setIfInBounds_toArray, List.set_cons_zero, List.set_cons_succ]
        refine wpAnyH_take (i := 9) (oi := ⟨some 24, _, _, _, _, _⟩) (v := ?_) rfl (by kernel_rfl) (by kernel_rfl) (by kernel_rfl) (fun _ _ _ h => h) (Or.inl ⟨by rfl, ?_⟩) (by assumption) ?_
        rotate_left 1
        · intro w hSw; (try dsimp only at hSw); go_simp; try (with_reducible rfl)
        try simp only [Act.put, List.setIfInBounds_toArray, List.set_cons_zero, List.set_cons_succ]
        refine wpAnyH_take (i := 10) (oi := ⟨some 25, _, _, _, _, _⟩) (v := ?_) rfl (by kernel_rfl) (by kernel_rfl) (by kernel_rfl) (fun _ _ _ h => h) (Or.inl ⟨by rfl, ?_⟩) (by assumption) ?_
        rotate_left 1
        · intro w hSw; (try dsimp only at hSw); go_simp; try (with_reducible rfl)
        try simp only [Act.put, List.setIfInBounds_toArray, List.set_cons_zero, List.set_cons_succ]
        refine wpAnyH_take (i := 11) (oi := ⟨some 26, _, _, _, _, _⟩) (v := ?_) rfl (by kernel_rfl) (by kernel_rfl) (by kernel_rfl) (fun _ _ _ h => h) (Or.inl ⟨by rfl, ?_⟩) (by assumption) ?_
        rotate_left 1
        · intro w hSw; (try dsimp only at hSw); go_simp; try (with_reducible rfl)
        try simp only [Act.put, List.setIfInBounds_toArray, List.set_cons_zero, List.set_cons_succ]
        refine wpAnyH_take (i := 12) (oi := ⟨some 6, _, _, _, _, _⟩) (v := ?_) rfl (by kernel_rfl) (by kernel_rfl) (by kernel_rfl) (fun _ _ _ h => h) (Or.inl ⟨by rfl, ?_⟩) (by assumption) ?_
        rotate_left 1
        · intro w hSw; (try dsimp only at hSw); go_simp; try (with_reducible rfl)
        try simp only [Act.put, List.setIfInBounds_toArray, List.set_cons_zero, List.set_cons_succ]
        refine wpAnyH_take (i := 13) (oi := ⟨some 7, _, _, _, _, _⟩) (v := ?_) rfl (by kernel_rfl) (by kernel_rfl) (by kernel_rfl) (fun _ _ _ h => h) (Or.inl ⟨by rfl, ?_⟩) (by assumption) ?_
        rotate_left 1
        · intro w hSw; (try dsimp only at hSw); go_simp; try (with_reducible rfl)
        try simp only [Act.put, List.setIfInBounds_toArray, List.set_cons_zero, List.set_cons_succ]
        refine wpAnyH_done (by kernel_rfl) ?_ _
        try simp only [Act.put, List.setIfInBounds_toArray, List.set_cons_zero, List.set_cons_succ]
        have H5 := Lib.hid hHeld.2.2.2.2.2.2.2.2.2
        clear hHeld
        go_wp2_with fail
        go_ret2
        exact ⟨.inl ⟨hq.out, bb, Nat.le_trans hs1 hbb, by rw [hp.out]; first | rfl | simp, hB.out.up H5.out hB.out.lt⟩, bstep D.out H5.out⟩
      · have hX : Hid (decide (X.st = s) = false) := Lib.hid (decide_eq_false hst)
        have hstb : (X.st == s) = false := by simpa using hst
        go_upto_region 2 with fail
        refine wp_region_held_drew (S := fun w' => w'.cell? ⟨w.heap.size, 0, none⟩ = some (.int .i64 X.id.1) ∧ w'.cell? ⟨w.heap.size, 1, none⟩ = some (.int .i64 X.id.2) ∧ w'.cell? ⟨w.heap.size, 2, none⟩ = some (.int .i64 X.bal) ∧ w'.cell? ⟨w.heap.size, 3, none⟩ = some (.int .i64 X.st) ∧ w'.cell? ⟨w.heap.size, 4, none⟩ = some (.int .i64 X.k) ∧ w'.cell? ⟨w.heap.size, 5, none⟩ = some (.int .i64 X.key) ∧ w'.cell? ⟨w.heap.size, 6, none⟩ = some (.int .i64 X.v) ∧ w'.cell? ⟨w.heap.size, 7, none⟩ = some (.int .i64 X.seq) ∧ w'.cell? ⟨w.heap.size, 8, none⟩ = some (.slice xa xn xc) ∧ Below wB.heap.size wB w') (by kernel_rfl) ⟨y0, y1, y2, y3, y4, y5, y6, y7, y8, Below.drew (Below.refl _ _)⟩ (fun hHeld => ?_)
        refine wpAnyH_take (i := 0) (oi := ⟨some 15, _, _, _, _, _⟩) (v := ?_) rfl (by kernel_rfl) (by kernel_rfl) (by kernel_rfl) (fun _ _ _ h => h) (Or.inl ⟨by rfl, ?_⟩) (by assumption) ?_
        rotate_left 1
        · intro w hSw; (try dsimp only at hSw); go_simp; try (with_reducible rfl)
        try simp only [Act.put, List.setIfInBounds_toArray, List.set_cons_zero, List.set_cons_succ]
        refine wpAnyH_take (i := 1) (oi := ⟨some 16, _, _, _, _, _⟩) (v := ?_) rfl (by kernel_rfl) (by kernel_rfl) (by kernel_rfl) (fun _ _ _ h => h) (Or.inl ⟨by rfl, ?_⟩) (by assumption) ?_
        rotate_left 1
        · intro w hSw; (try dsimp only at hSw); go_simp; try (with_reducible rfl)
        try simp only [Act.put, List.setIfInBounds_toArray, List.set_cons_zero, List.set_cons_succ]
        refine wpAnyH_take (i := 2) (oi := ⟨some 17, _, _, _, _, _⟩) (v := ?_) rfl (by kernel_rfl) (by kernel_rfl) (by kernel_rfl) (fun _ _ _ h => h) (Or.inl ⟨by rfl, ?_⟩) (by assumption) ?_
        rotate_left 1
        · intro w hSw; (try dsimp only at hSw); go_simp; try (with_reducible rfl)
        try simp only [Act.put, List.setIfInBounds_toArray, List.set_cons_zero, List.set_cons_succ]
        refine wpAnyH_take (i := 3) (oi := ⟨some 18, _, _, _, _, _⟩) (v := ?_) rfl (by kernel_rfl) (by kernel_rfl) (by kernel_rfl) (fun _ _ _ h => h) (Or.inl ⟨by rfl, ?_⟩) (by assumption) ?_
        rotate_left 1
        · intro w hSw; (try dsimp only at hSw); go_simp; try (with_reducible rfl)
        try simp only [Act.put, List.setIfInBounds_toArray, List.set_cons_zero, List.set_cons_succ]
        refine wpAnyH_ready (rs := [4]) (by kernel_rfl) (by simp) ?_
        refine AllReadyH.cons (o := ⟨some 19, _, _, _, _, _⟩) rfl (fun K hK => ?_) AllReadyH.nil
        go_simp
        with_reducible refine (ev _ hHeld.2.2.2.2.2.2.2.2.2).mono ?_
        rintro e wq ⟨rfl, hb⟩
        go_wp2_with fail
        refine hK.out _ _ ?_ (fun hHeld2 => ?_)
        · exact ⟨cell_later hb hHeld.1, cell_later hb hHeld.2.1, cell_later hb hHeld.2.2.1, cell_later hb hHeld.2.2.2.1, cell_later hb hHeld.2.2.2.2.1, cell_later hb hHeld.2.2.2.2.2.1, cell_later hb hHeld.2.2.2.2.2.2.1, cell_later hb hHeld.2.2.2.2.2.2.2.1, cell_later hb hHeld.2.2.2.2.2.2.2.2.1, hHeld.2.2.2.2.2.2.2.2.2.trans (hb.mono hHeld.2.2.2.2.2.2.2.2.2.size)⟩
        clear hK K hHeld hb
        have hHeld := hHeld2
        clear hHeld2
        try simp only [Act.put, List.setIfInBounds_toArray, List.set_cons_zero, List.set_cons_succ]
        refine wpAnyH_take (i := 5) (oi := ⟨some 20, _, _, _, _, _⟩) (v := ?_) rfl (by kernel_rfl) (by kernel_rfl) (by kernel_rfl) (fun _ _ _ h => h) (Or.inl ⟨by rfl, ?_⟩) (by assumption) ?_
        rotate_left 1
        · intro w hSw; (try dsimp only at hSw); go_simp; try (with_reducible rfl)
        try simp only [Act.put, List.setIfInBounds_toArray, List.set_cons_zero, List.set_cons_succ]
        refine wpAnyH_take (i := 6) (oi := ⟨some 21, _, _, _, _, _⟩) (v := ?_) rfl (by kernel_rfl) (by kernel_rfl) (by kernel_rfl) (fun _ _ _ h => h) (Or.inl ⟨by rfl, ?_⟩) (by assumption) ?_
        rotate_left 1
        · intro w hSw; (try dsimp only at hSw); go_simp; try (with_reducible rfl)
        try simp only [Act.put, List.setIfInBounds_toArray, List.set_cons_zero, List.set_cons_succ]
        refine wpAnyH_take (i := 7) (oi := ⟨some 22, _, _, _, _, _⟩) (v := ?_) rfl (by kernel_rfl) (by kernel_rfl) (by kernel_rfl) (fun _ _ _ h => h) (Or.inl ⟨by rfl, ?_⟩) (by assumption) ?_
        rotate_left 1
        · intro w hSw; (try dsimp only at hSw); go_simp; try (with_reducible rfl)
        try simp only [Act.put, List.setIfInBounds_toArray, List.set_cons_zero, List.set_cons_succ]
        refine wpAnyH_take (i := 8) (oi := ⟨some 23, _, _, _, _, _⟩) (v := ?_) rfl (by kernel_rfl) (by kernel_rfl) (by kernel_rfl) (fun _ _ _ h => h) (Or.inl ⟨by rfl, ?_⟩) (by assumption) ?_
        rotate_left 1
        · intro w hSw; (try dsimp only at hSw); go_simp; try (with_reducible rfl)
        try simp only [Act.put, List.setIfInBounds_toArray, List.set_cons_zero, List.set_cons_succ]
        refine wpAnyH_take (i := 9) (oi := ⟨some 24, _, _, _, _, _⟩) (v := ?_) rfl (by kernel_rfl) (by kernel_rfl) (by kernel_rfl) (fun _ _ _ h => h) (Or.inl ⟨by rfl, ?_⟩) (by assumption) ?_
        rotate_left 1
        · intro w hSw; (try dsimp only at hSw); go_simp; try (with_reducible rfl)
        try simp only [Act.put, List.setIfInBounds_toArray, List.set_cons_zero, List.set_cons_succ]
        refine wpAnyH_take (i := 10) (oi := ⟨some 25, _, _, _, _, _⟩) (v := ?_) rfl (by kernel_rfl) (by kernel_rfl) (by kernel_rfl) (fun _ _ _ h => h) (Or.inl ⟨by rfl, ?_⟩) (by assumption) ?_
        rotate_left 1
        · intro w hSw; (try dsimp only at hSw); go_simp; try (with_reducible rfl)
        try simp only [Act.put, List.setIfInBounds_toArray, List.set_cons_zero, List.set_cons_succ]
        refine wpAnyH_take (i := 11) (oi := ⟨some 26, _, _, _, _, _⟩) (v := ?_) rfl (by kernel_rfl) (by kernel_rfl) (by kernel_rfl) (fun _ _ _ h => h) (Or.inl ⟨by rfl, ?_⟩) (by assumption) ?_
        rotate_left 1
        · intro w hSw; (try dsimp only at hSw); go_simp; try (with_reducible rfl)
        try simp only [Act.put, List.setIfInBounds_toArray, List.set_cons_zero, List.set_cons_succ]
        refine wpAnyH_take (i := 12) (oi := ⟨some 6, _, _, _, _, _⟩) (v := ?_) rfl (by kernel_rfl) (by kernel_rfl) (by kernel_rfl) (fun _ _ _ h => h) (Or.inl ⟨by rfl, ?_⟩) (by assumption) ?_
        rotate_left 1
        · intro w hSw; (try dsimp only at hSw); go_simp; try (with_reducible rfl)
        try simp only [Act.put, List.setIfInBounds_toArray, List.set_cons_zero, List.set_cons_succ]
        refine wpAnyH_take (i := 13) (oi := ⟨some 7, _, _, _, _, _⟩) (v := ?_) rfl (by kernel_rfl) (by kernel_rfl) (by kernel_rfl) (fun _ _ _ h => h) (Or.inl ⟨by rfl, ?_⟩) (by assumption) ?_
        rotate_left 1
        · intro w hSw; (try dsimp only at hSw); go_simp; try (with_reducible rfl)
        try simp only [Act.put, List.setIfInBounds_toArray, List.set_cons_zero, List.set_cons_succ]
        refine wpAnyH_done (by kernel_rfl) ?_ _
        try simp only [Act.put, List.setIfInBounds_toArray, List.set_cons_zero, List.set_cons_succ]
        have H5 := Lib.hid hHeld.2.2.2.2.2.2.2.2.2
        clear hHeld
        go_wp2_with fail
        go_ret2
        exact ⟨.inl ⟨hq.out, bb, Nat.le_trans hs1 hbb, by rw [hp.out, hX.out]; rfl, hB.out.up H5.out hB.out.lt⟩, bstep D.out H5.out⟩
  · subst hqf
    clear ev
    go_upto_region 2 with fail
    refine wp_region_held_drew (S := fun w' => w'.cell? ⟨w.heap.size, 0, none⟩ = some (.int .i64 X.id.1) ∧ w'.cell? ⟨w.heap.size, 1, none⟩ = some (.int .i64 X.id.2) ∧ w'.cell? ⟨w.heap.size, 2, none⟩ = some (.int .i64 X.bal) ∧ w'.cell? ⟨w.heap.size, 3, none⟩ = some (.int .i64 X.st) ∧ w'.cell? ⟨w.heap.size, 4, none⟩ = some (.int .i64 X.k) ∧ w'.cell? ⟨w.heap.size, 5, none⟩ = some (.int .i64 X.key) ∧ w'.cell? ⟨w.heap.size, 6, none⟩ = some (.int .i64 X.v) ∧ w'.cell? ⟨w.heap.size, 7, none⟩ = some (.int .i64 X.seq) ∧ w'.cell? ⟨w.heap.size, 8, none⟩ = some (.slice xa xn xc) ∧ Below wB.heap.size wB w') (by kernel_rfl) ⟨y0, y1, y2, y3, y4, y5, y6, y7, y8, Below.drew (Below.refl _ _)⟩ (fun hHeld => ?_)
    refine wpAnyH_take (i := 0) (oi := ⟨some 15, _, _, _, _, _⟩) (v := ?_) rfl (by kernel_rfl) (by kernel_rfl) (by kernel_rfl) (fun _ _ _ h => h) (Or.inl ⟨by rfl, ?_⟩) (by assumption) ?_
    rotate_left 1
    · intro w hSw; (try dsimp only at hSw); go_simp; try (with_reducible rfl)
    try simp only [Act.put, List.setIfInBounds_toArray, List.set_cons_zero, List.set_cons_succ]
    refine wpAnyH_take (i := 1) (oi := ⟨some 16, _, _, _, _, _⟩) (v := ?_) rfl (by kernel_rfl) (by kernel_rfl) (by kernel_rfl) (fun _ _ _ h => h) (Or.inl ⟨by rfl, ?_⟩) (by assumption) ?_
    rotate_left 1
    · intro w hSw; (try dsimp only at hSw); go_simp; try (with_reducible rfl)
    try simp only [Act.put, List.setIfInBounds_toArray, List.set_cons_zero, List.set_cons_succ]
    refine wpAnyH_take (i := 2) (oi := ⟨some 17, _, _, _, _, _⟩) (v := ?_) rfl (by kernel_rfl) (by kernel_rfl) (by kernel_rfl) (fun _ _ _ h => h) (Or.inl ⟨by rfl, ?_⟩) (by assumption) ?_
    rotate_left 1
    · intro w hSw; (try dsimp only at hSw); go_simp; try (with_reducible rfl)
    try simp only [Act.put, List.setIfInBounds_toArray, List.set_cons_zero, List.set_cons_succ]
    refine wpAnyH_take (i := 3) (oi := ⟨some 18, _, _, _, _, _⟩) (v := undef) rfl (by kernel_rfl) (by kernel_rfl) (by kernel_rfl) (fun _ _ _ h => h) (Or.inr ⟨by rfl, rfl⟩) (by assumption) ?_
    try simp only [Act.put, List.setIfInBounds_toArray, List.set_cons_zero, List.set_cons_succ]
    refine wpAnyH_take (i := 4) (oi := ⟨some 19, _, _, _, _, _⟩) (v := undef) rfl (by kernel_rfl) (by kernel_rfl) (by kernel_rfl) (fun _ _ _ h => h) (Or.inr ⟨by rfl, rfl⟩) (by assumption) ?_
    try simp only [Act.put, List.setIfInBounds_toArray, List.set_cons_zero, List.set_cons_succ]
    refine wpAnyH_take (i := 5) (oi := ⟨some 20, _, _, _, _, _⟩) (v := ?_) rfl (by kernel_rfl) (by kernel_rfl) (by kernel_rfl) (fun _ _ _ h => h) (Or.inl ⟨by rfl, ?_⟩) (by assumption) ?_
    rotate_left 1
    · intro w hSw; (try dsimp only at hSw); go_simp; try (with_reducible rfl)
    try simp only [Act.put, List.setIfInBounds_toArray, List.set_cons_zero, List.set_cons_succ]
    refine wpAnyH_take (i := 6) (oi := ⟨some 21, _, _, _, _, _⟩) (v := ?_) rfl (by kernel_rfl) (by kernel_rfl) (by kernel_rfl) (fun _ _ _ h => h) (Or.inl ⟨by rfl, ?_⟩) (by assumption) ?_
    rotate_left 1
    · intro w hSw; (try dsimp only at hSw); go_simp; try (with_reducible rfl)
    try simp only [Act.put, List.setIfInBounds_toArray, List.set_cons_zero, List.set_cons_succ]
    refine wpAnyH_take (i := 7) (oi := ⟨some 22, _, _, _, _, _⟩) (v := undef) rfl (by kernel_rfl) (by kernel_rfl) (by kernel_rfl) (fun _ _ _ h => h) (Or.inr ⟨by rfl, rfl⟩) (by assumption) ?_
    try simp only [Act.put, List.setIfInBounds_toArray, List.set_cons_zero, List.set_cons_succ]
    refine wpAnyH_take (i := 8) (oi := ⟨some 23, _, _, _, _, _⟩) (v := undef) rfl (by kernel_rfl) (by kernel_rfl) (by kernel_rfl) (fun _ _ _ h => h) (Or.inr ⟨by rfl, rfl⟩) (by assumption) ?_
    try simp only [Act.put, List.setIfInBounds_toArray, List.set_cons_zero, List.set_cons_succ]
    refine wpAnyH_take (i := 9) (oi := ⟨some 24, _, _, _, _, _⟩) (v := undef) rfl (by kernel_rfl) (by kernel_rfl) (by kernel_rfl) (fun _ _ _ h => h) (Or.inr ⟨by rfl, rfl⟩) (by assumption) ?_
    try simp only [Act.put, List.setIfInBounds_toArray, List.set_cons_zero, List.set_cons_succ]
    refine wpAnyH_take (i := 10) (oi := ⟨some 25, _, _, _, _, _⟩) (v := undef) rfl (by kernel_rfl) (by kernel_rfl) (by kernel_rfl) (fun _ _ _ h => h) (Or.inr ⟨by rfl, rfl⟩) (by assumption) ?_
    try simp only [Act.put, List.setIfInBounds_toArray, List.set_cons_zero, List.set_cons_succ]
    refine wpAnyH_take (i := 11) (oi := ⟨some 26, _, _, _, _, _⟩) (v := ?_) rfl (by kernel_rfl) (by kernel_rfl) (by kernel_rfl) (fun _ _ _ h => h) (Or.inl ⟨by rfl, ?_⟩) (by assumption) ?_
    rotate_left 1
    · intro w hSw; (try dsimp only at hSw); go_simp; try (with_reducible rfl)
    try simp only [Act.put, List.setIfInBounds_toArray, List.set_cons_zero, List.set_cons_succ]
    refine wpAnyH_take (i := 12) (oi := ⟨some 6, _, _, _, _, _⟩) (v := ?_) rfl (by kernel_rfl) (by kernel_rfl) (by kernel_rfl) (fun _ _ _ h => h) (Or.inl ⟨by rfl, ?_⟩) (by assumption) ?_
    rotate_left 1
    · intro w hSw; (try dsimp only at hSw); go_simp; try (with_reducible rfl)
    try simp only [Act.put, List.setIfInBounds_toArray, List.set_cons_zero, List.set_cons_succ]
    refine wpAnyH_take (i := 13) (oi := ⟨some 7, _, _, _, _, _⟩) (v := ?_) rfl (by kernel_rfl) (by kernel_rfl) (by kernel_rfl) (fun _ _ _ h => h) (Or.inl ⟨by rfl, ?_⟩) (by assumption) ?_
    rotate_left 1
    · intro w hSw; (try dsimp only at hSw); go_simp; try (with_reducible rfl)
    try simp only [Act.put, List.setIfInBounds_toArray, List.set_cons_zero, List.set_cons_succ]
    refine wpAnyH_done (by kernel_rfl) ?_ _
    try simp only [Act.put, List.setIfInBounds_toArray, List.set_cons_zero, List.set_cons_succ]
    have H5 := Lib.hid hHeld.2.2.2.2.2.2.2.2.2
    clear hHeld
    go_wp2_with fail
    go_ret2
    exact ⟨.inr ⟨hq.out, rfl⟩, bstep D.out H5.out⟩
end Go.Proofs.YtiolhjjkjmepcaaGreatDoor

/- The two errors of ballots, and book.late. -/
namespace Go.Proofs.YtiolhjjkjmepcaaGreatDoor
open Go.RowKit
set_option linter.unusedVariables false

/-- A pointer to an error that errors.New made. -/
def errV (a : Addr) : Value := .iface 173 (.pointer (some a))
/-- The two errors lie in their variables. -/
def SenIn (a0 a1 : Addr) (w : World) : Prop :=
  w.cell? ⟨0, 0, none⟩ = some (errV a0) ∧ w.cell? ⟨1, 0, none⟩ = some (errV a1) ∧ a0 ≠ a1 ∧
    ∃ (c0 c1 : Array Value) (t0 t1 : TypeId), w.heap[a0.block]? = some (.cells c0 t0 (0, 0)) ∧ w.heap[a1.block]? = some (.cells c1 t1 (0, 0))
/-- Why an entry comes too late. -/
def lateV (a0 a1 : Addr) (E : List En) (X : En) : Value :=
  if fixedB E X.id = true then errV a0 else if passB E X = true then errV a1 else .nilIface
set_option maxRecDepth 100000 in
set_option maxHeartbeats 8000000 in
theorem ilate_any (bb : Nat) (a0 a1 : Addr) (E : List En) (U : Nat → Value) (X : En) (xa : Option Addr) (xn xc : Nat) (w : World) (hv : logB E = true) (h : Book w bb E.length (mapE E U E.length)) (hU : ∀ k, k < E.length → ∃ a n c, U k = .slice a n c) (ha : inR X.id)
    (hs0 : ∀ W, Below w.heap.size w W → W.cell? ⟨0, 0, none⟩ = some (errV a0)) (hs1 : ∀ W, Below w.heap.size w W → W.cell? ⟨1, 0, none⟩ = some (errV a1)) :
    Calls Tryz.prog 36 #[.map (some bb), env X (.slice xa xn xc)] w fun e w' => e = .returned (lateV a0 a1 E X) ∧ Below w.heap.size w w' := by
  have B0 := (Below.refl w.heap.size w).alloc (Nat.le_refl _) (.cells #[.int .i64 X.id.1, .int .i64 X.id.2, .int .i64 X.bal, .int .i64 X.st, .int .i64 X.k, .int .i64 X.key, .int .i64 X.v, .int .i64 X.seq, .slice xa xn xc] 30)
  have A0 := heap_alloc_new w (.cells #[.int .i64 X.id.1, .int .i64 X.id.2, .int .i64 X.bal, .int .i64 X.st, .int .i64 X.k, .int .i64 X.key, .int .i64 X.v, .int .i64 X.seq, .slice xa xn xc] 30)
  have hl := (h.up B0 h.lt).look Tryz.underlying60 (Tryz.zeroValue30 _) ha
  have key2 : ∃ (z : En) (b : Bool) (ua : Option Addr) (un uc : Nat), (Instr.lookup 60 (.map (some bb)) (idv2 X.id) true).run Tryz.prog (w.alloc (.cells #[.int .i64 X.id.1, .int .i64 X.id.2, .int .i64 X.bal, .int .i64 X.st, .int .i64 X.k, .int .i64 X.key, .int .i64 X.v, .int .i64 X.seq, .slice xa xn xc] 30)) = .ok (.tuple #[env z (.slice ua un uc), .bool b]) (w.alloc (.cells #[.int .i64 X.id.1, .int .i64 X.id.2, .int .i64 X.bal, .int .i64 X.st, .int .i64 X.k, .int .i64 X.key, .int .i64 X.v, .int .i64 X.seq, .slice xa xn xc] 30)) ∧ lateV a0 a1 E X = (if (b && (z.st == 3)) = true then errV a0 else if (b && decide (X.bal < z.bal)) = true then errV a1 else .nilIface) := by
    rcases mapE_look hv U X.id with ⟨j, hj, e1, e2⟩ | ⟨e1, e2⟩
    · rw [e2] at hl
      obtain ⟨ua, un, uc, hu⟩ := hU j hj
      rw [hu] at hl
      exact ⟨_, _, ua, un, uc, hl, by unfold lateV fixedB passB; rw [lfindR_some hv hj e1]; rfl⟩
    · rw [e2] at hl
      exact ⟨en0, _, none, 0, 0, hl, by unfold lateV fixedB passB; rw [lfindR_none e1]; rfl⟩
  obtain ⟨z, b, ua, un, uc, hlk, hA⟩ := key2
  clear hl h hU hv
  generalize lateV a0 a1 E X = R at hA ⊢
  unfold errV at hA hs0 hs1
  have hA := Lib.hid hA
  unfold env
  unfold idv2 env at hlk
  obtain ⟨⟨c0, c1, c2, c3, c4, c5, c6, c7, c8⟩, _, cl⟩ := nine_all A0
  have D0 := Lib.hid B0
  have A0 := Lib.hid A0
  clear B0
  go_enter Tryz.func36, Tryz.ntmps36
  go_upto_region 1 with fail
  generalize w.alloc (.cells #[.int .i64 X.id.1, .int .i64 X.id.2, .int .i64 X.bal, .int .i64 X.st, .int .i64 X.k, .int .i64 X.key, .int .i64 X.v, .int .i64 X.seq, .slice xa xn xc] 30) = w1 at A0 D0 hlk c0 c1 c2 c3 c4 c5 c6 c7 c8 cl ⊢
  go_upto_region 2 with fail
  have BA := (Below.refl w1.heap.size w1).alloc (Nat.le_refl _) (.cells #[.int .i64 z.id.1, .int .i64 z.id.2, .int .i64 z.bal, .int .i64 z.st, .int .i64 z.k, .int .i64 z.key, .int .i64 z.v, .int .i64 z.seq, .slice ua un uc] 30)
  have Z0 := heap_alloc_new w1 (.cells #[.int .i64 z.id.1, .int .i64 z.id.2, .int .i64 z.bal, .int .i64 z.st, .int .i64 z.k, .int .i64 z.key, .int .i64 z.v, .int .i64 z.seq, .slice ua un uc] 30)
  have A1 := bblk BA cl A0.out
  have D1 := Lib.hid (bstep D0.out BA)
  clear c0 c1 c2 c3 c4 c5 c6 c7 c8 cl hlk D0 A0 BA
  generalize w1.alloc (.cells #[.int .i64 z.id.1, .int .i64 z.id.2, .int .i64 z.bal, .int .i64 z.st, .int .i64 z.k, .int .i64 z.key, .int .i64 z.v, .int .i64 z.seq, .slice ua un uc] 30) = w2 at Z0 A1 D1 ⊢
  have hs0 := hs0 _ D1.out
  have hs1 := hs1 _ D1.out
  obtain ⟨⟨c0, c1, c2, c3, c4, c5, c6, c7, c8⟩, _, cl⟩ := nine_all A1
  obtain ⟨⟨y0, y1, y2, y3, y4, y5, y6, y7, y8⟩, _, ys⟩ := nine_all Z0
  clear A1 Z0
  cases b
  · go_wp2_with fail
    go_ret
    exact ⟨by rw [hA.out]; simp, D1.out⟩
  · by_cases h1 : z.st = 3
    · have h1b : (z.st == 3) = true := by simpa using h1
      go_wp2_with fail
      go_ret
      exact ⟨by rw [hA.out]; simp [h1], D1.out⟩
    · have h1b : (z.st == 3) = false := by simpa using h1
      by_cases h2 : X.bal < z.bal
      · go_wp2_with fail
        go_ret
        exact ⟨by rw [hA.out]; simp [h1, h2], D1.out⟩
      · go_wp2_with fail
        go_ret
        exact ⟨by first | rfl | (rw [hA.out]; simp [h1, h2]), D1.out⟩
set_option maxRecDepth 100000 in
set_option maxHeartbeats 8000000 in
/-- Nothing is late for no book. -/
theorem ilate_nil (X : En) (xa : Option Addr) (xn xc : Nat) (w : World) (ha : inR X.id) :
    Calls Tryz.prog 36 #[.map none, env X (.slice xa xn xc)] w fun e w' => e = .returned .nilIface ∧ Below w.heap.size w w' := by
  have B0 := (Below.refl w.heap.size w).alloc (Nat.le_refl _) (.cells #[.int .i64 X.id.1, .int .i64 X.id.2, .int .i64 X.bal, .int .i64 X.st, .int .i64 X.k, .int .i64 X.key, .int .i64 X.v, .int .i64 X.seq, .slice xa xn xc] 30)
  have A0 := heap_alloc_new w (.cells #[.int .i64 X.id.1, .int .i64 X.id.2, .int .i64 X.bal, .int .i64 X.st, .int .i64 X.k, .int .i64 X.key, .int .i64 X.v, .int .i64 X.seq, .slice xa xn xc] 30)
  have hlk := book_nil Tryz.underlying60 (Tryz.zeroValue30 (w.alloc (.cells #[.int .i64 X.id.1, .int .i64 X.id.2, .int .i64 X.bal, .int .i64 X.st, .int .i64 X.k, .int .i64 X.key, .int .i64 X.v, .int .i64 X.seq, .slice xa xn xc] 30))) ha
  unfold env
  unfold idv2 at hlk
  obtain ⟨⟨c0, c1, c2, c3, c4, c5, c6, c7, c8⟩, _, cl⟩ := nine_all A0
  have D0 := Lib.hid B0
  have A0 := Lib.hid A0
  clear B0
  go_enter Tryz.func36, Tryz.ntmps36
  go_upto_region 1 with fail
  generalize w.alloc (.cells #[.int .i64 X.id.1, .int .i64 X.id.2, .int .i64 X.bal, .int .i64 X.st, .int .i64 X.k, .int .i64 X.key, .int .i64 X.v, .int .i64 X.seq, .slice xa xn xc] 30) = w1 at A0 D0 hlk c0 c1 c2 c3 c4 c5 c6 c7 c8 cl ⊢
  go_wp2_with fail
  go_ret
  refine ⟨rfl, ?_⟩
  exact D0.out.trans ((Below.refl w1.heap.size w1).alloc (Nat.le_refl _) _ |>.mono (by omega))
end Go.Proofs.YtiolhjjkjmepcaaGreatDoor

/- errors.Is at the two errors of ballots. -/
namespace Go.Proofs.YtiolhjjkjmepcaaGreatDoor
open Go.RowKit Go.Extern.Stop Go.Stop Go.Extern
set_option linter.unusedVariables false

theorem err_nil (b : Addr) (w : World) :
    Calls Tryz.prog 37 #[.nilIface, errV b] w fun e w' => e = .returned (.bool false) ∧ w' = w := by
  unfold errV
  have hn := run_eql_iface_nil_left (P := Tryz.prog) w 173 (.pointer (some b)) Tryz.underlying64
  go_enter Tryz.func37, Tryz.ntmps37
  go_wp2
  go_ret
  exact ⟨rfl, rfl⟩
theorem esT (v : Value) (w : World) : (Extern.ReflectliteType.typeOf #[.iface 173 v]).run Tryz.prog w = .ok (.iface 116 (.agg #[.pointer (some ⟨2, 173, none⟩)])) w := by kernel_rfl
theorem esC (w : World) : ((Extern.ReflectliteType.method fun t => do Extern.Rtype.noPackHeld "Comparable" t; (fun a => Value.bool a.comparable) <$> typeInfo t) #[.agg #[.pointer (some ⟨2, 173, none⟩)]]).run Tryz.prog w = .ok (.bool true) w := by kernel_rfl
theorem esM (v : Value) (w : World) : (Go.method 311 116 v "Comparable").run Tryz.prog w = .ok (139, v) w := by kernel_rfl
theorem esI : (Tryz.prog.info? 173).map (·.comparable) = some true := by kernel_rfl
theorem esS : (Tryz.prog.info? 199).map (·.size) = some 1 := by kernel_rfl
theorem esN1 (v : Value) (xT : TypeId) (w : World) : (Instr.typeAssert (.iface 173 v) xT 118 true).run Tryz.prog w = .ok (.tuple #[.nilIface, .bool false]) w := run_typeAssert_lacksB Tryz.underlying118 (by kernel_rfl) (by kernel_rfl) v xT w
theorem esN2 (v : Value) (xT : TypeId) (w : World) : (Instr.typeAssert (.iface 173 v) xT 121 true).run Tryz.prog w = .ok (.tuple #[.nilIface, .bool false]) w := run_typeAssert_lacksB Tryz.underlying121 (by kernel_rfl) (by kernel_rfl) v xT w
theorem esN3 (v : Value) (xT : TypeId) (w : World) : (Instr.typeAssert (.iface 173 v) xT 123 true).run Tryz.prog w = .ok (.tuple #[.nilIface, .bool false]) w := run_typeAssert_lacksB Tryz.underlying123 (by kernel_rfl) (by kernel_rfl) v xT w

set_option maxRecDepth 100000 in
set_option maxHeartbeats 8000000 in
theorem err_same (a : Addr) (w : World) :
    Calls Tryz.prog 37 #[errV a, errV a] w fun e w' => e = .returned (.bool true) ∧ w' = w := by
  unfold errV
  obtain ⟨i, hi, hcmp⟩ := Option.map_eq_some_iff.1 esI
  obtain ⟨j, hj, hjs⟩ := Option.map_eq_some_iff.1 esS
  have q1 := @run_callFunc_extern Tryz.prog 62 _ Extern.ReflectliteType.typeOf Tryz.func62 (by kernel_rfl) (by kernel_rfl) (by kernel_rfl) (by kernel_rfl)
  have q2 := @run_callFunc_extern Tryz.prog 139 _ (Extern.ReflectliteType.method fun t => do Extern.Rtype.noPackHeld "Comparable" t; pure (.bool (← typeInfo t).comparable)) Tryz.func139 (by kernel_rfl) (by kernel_rfl) (by kernel_rfl) (by kernel_rfl)
  have q3 := esT
  have q4 := esC
  have q5 := esM
  have q6 := run_eql_iface_ptr_same (P := Tryz.prog) w a Tryz.underlying64 Tryz.underlying173 hi hcmp hj
  go_enter Tryz.func37, Tryz.ntmps37
  go_wp2
  refine wp_loop_rounds 1 ?_
  rw [rounds_succ]
  go_wp2
  go_ret
  exact ⟨rfl, rfl⟩

set_option maxRecDepth 100000 in
set_option maxHeartbeats 8000000 in
theorem err_other (a b : Addr) (ca cb : Array Value) (ta tb : TypeId) (w : World) (hne : a ≠ b) (ha : w.heap[a.block]? = some (.cells ca ta (0, 0))) (hb : w.heap[b.block]? = some (.cells cb tb (0, 0))) :
    Calls Tryz.prog 37 #[errV a, errV b] w fun e w' => e = .returned (.bool false) ∧ w' = w := by
  unfold errV
  obtain ⟨i, hi, hcmp⟩ := Option.map_eq_some_iff.1 esI
  obtain ⟨j, hj, hjs⟩ := Option.map_eq_some_iff.1 esS
  have q1 := @run_callFunc_extern Tryz.prog 62 _ Extern.ReflectliteType.typeOf Tryz.func62 (by kernel_rfl) (by kernel_rfl) (by kernel_rfl) (by kernel_rfl)
  have q2 := @run_callFunc_extern Tryz.prog 139 _ (Extern.ReflectliteType.method fun t => do Extern.Rtype.noPackHeld "Comparable" t; pure (.bool (← typeInfo t).comparable)) Tryz.func139 (by kernel_rfl) (by kernel_rfl) (by kernel_rfl) (by kernel_rfl)
  have q3 := esT
  have q4 := esC
  have q5 := esM
  have q7 := esN1
  have q8 := esN2
  have q9 := esN3
  have q6 := run_eql_iface_ptr_other (P := Tryz.prog) w Tryz.underlying64 Tryz.underlying173 hi hcmp hj (by rw [hjs]; decide) hne ha hb
  go_enter Tryz.func37, Tryz.ntmps37
  go_wp2
  refine wp_loop_rounds 1 ?_
  rw [rounds_succ]
  go_wp2
  go_ret
  exact ⟨rfl, rfl⟩
end Go.Proofs.YtiolhjjkjmepcaaGreatDoor

/- A log's book, and what it is when an entry was put. -/
namespace Go.Proofs.YtiolhjjkjmepcaaGreatDoor
open Go.RowKit
set_option linter.unusedVariables false
set_option maxRecDepth 100000

theorem asc_nd {A : List Pid} (h : Asc A) : A.Nodup := List.Pairwise.imp (fun {a b} hab e => by subst e; rw [ltP_irr] at hab; cases hab) h
theorem mem_idsP {e : En} {E : List En} (a : Pid) : a ∈ idsE (putE e E) ↔ a = e.id ∨ a ∈ idsE E := by
  unfold idsE
  simp only [List.mem_map, mem_putE]
  constructor
  · rintro ⟨x, rfl | ⟨h1, h2⟩, rfl⟩
    · exact .inl rfl
    · exact .inr ⟨x, h1, rfl⟩
  · rintro (rfl | ⟨x, h1, rfl⟩)
    · exact ⟨e, .inl rfl, rfl⟩
    · by_cases h2 : x.id = e.id
      · exact ⟨e, .inl rfl, h2.symm⟩
      · exact ⟨x, .inr ⟨h1, h2⟩, rfl⟩
/-- A book of entries. -/
structure BkE (w : World) (bb nn : Nat) (M : Pid → Option Value) (R : List En) : Prop where
  book : Book w bb nn M
  keys : KeysOf M (idsE R)
  asc : Asc (idsE R)
  look : ∀ k, k < R.length → ∃ u, M (R.getD k en0).id = some (env (R.getD k en0) u) ∧ Ids w u (R.getD k en0).deps
theorem BkE.up {w w' : World} {bb nn : Nat} {M : Pid → Option Value} {R : List En} (h : BkE w bb nn M R) (hb : Below w.heap.size w w') : BkE w' bb nn M R :=
  ⟨h.book.up hb h.book.lt, h.keys, h.asc, fun k hk => by obtain ⟨u, h1, h2⟩ := h.look k hk; exact ⟨u, h1, h2.up hb (Nat.le_refl _)⟩⟩
theorem bkE_log {w : World} {bb : Nat} {E : List En} {U : Nat → Value} (hv : logB E = true) (hB : Book w bb E.length (mapE E U E.length)) (hU : ∀ k, k < E.length → Ids w (U k) (E.getD k en0).deps) : BkE w bb E.length (mapE E U E.length) E := by
  refine ⟨hB, ⟨asc_nd (log_of hv).2.2, fun a ha => ?_, fun a ha => ?_⟩, (log_of hv).2.2, fun k hk => ⟨U k, mapE_some (fun j hj hl => log_inj hv hl hk hj) _ (Nat.le_refl _) hk rfl, hU k hk⟩⟩
  · obtain ⟨k, hk, rfl⟩ := mem_idsE.1 ha
    exact inR_ok (log_num hv hk)
  · rcases mapE_look hv U a with ⟨k, hk, e1, e2⟩ | ⟨e1, e2⟩
    · rw [e2]
      exact ⟨fun _ => mem_idsE.2 ⟨k, hk, e1⟩, fun _ => rfl⟩
    · rw [e2]
      refine ⟨fun h => (by cases h), fun h => ?_⟩
      obtain ⟨k, hk, e⟩ := mem_idsE.1 h
      exact absurd e (e1 k hk)
theorem Ids.turned {w w' : World} {bb n : Nat} {M : Pid → Option Value} {u : Value} {C : List Pid} (h : Ids w u C) (hB : Book w bb n M) (hg : w.grownBy w' (some bb)) : Ids w' u C := by
  obtain ⟨a, cap, rfl, h1, h2, h3⟩ := h
  refine ⟨a, cap, rfl, h1, h2, ?_⟩
  by_cases h0 : C.length = 0
  · exact .inl h0
  rcases h3 with h3 | ⟨b, off, rfl, h4, h5⟩
  · exact .inl h3
  · refine .inr ⟨b, off, rfl, Nat.lt_of_lt_of_le h4 hg.size, fun i hi => ?_⟩
    have hne : b ≠ bb := fun e => by
      obtain ⟨D, ⟨es, clock, hb, r⟩, _⟩ := hB
      have := (h5 0 (by omega)).1
      subst e
      simp [World.cell?, hb] at this
    have hc : ∀ o, w'.cell? ⟨b, o, none⟩ = w.cell? ⟨b, o, none⟩ := fun o => World.cell?_of_block (hg.block b h4 (fun e => by injection e with e; exact hne e))
    rw [hc, hc]
    exact h5 i hi
/-- An entry is put. -/
theorem BkE.put {w : World} {bb nn : Nat} {M : Pid → Option Value} {R : List En} (h : BkE w bb nn M R) {t e : TypeId} (ht : Tryz.prog.underlying t = some (.map 25 e)) (hn : nn < maxLen) {X : En} (hX : okP X.id = true) {u : Value} (hu : Ids w u X.deps) :
    ∃ w', (Instr.mapUpdate t (.map (some bb)) (idv2 X.id) (env X u)).run Tryz.prog w = .ok () w' ∧ BkE w' bb (nn + 1) (fun x => if x = X.id then some (env X u) else M x) (putE X R) ∧ w.grownBy w' (some bb) := by
  obtain ⟨w', r1, r2, r3⟩ := h.book.put ht hn (inR_ok hX) (env X u)
  refine ⟨w', r1, ⟨r2, ⟨asc_nd (putE_asc h.asc), fun a ha => ?_, fun a ha => ?_⟩, putE_asc h.asc, fun k hk => ?_⟩, r3⟩
  · rcases (mem_idsP a).1 ha with rfl | ha
    · exact inR_ok hX
    · exact h.keys.2.1 a ha
  · rw [mem_idsP]
    try dsimp only
    by_cases e : a = X.id
    · rw [if_pos e]; exact ⟨fun _ => .inl e, fun _ => rfl⟩
    · rw [if_neg e, h.keys.2.2 a ha]; exact ⟨.inr, fun h => h.resolve_left e⟩
  · rcases mem_putE.1 (enD_mem hk) with e | ⟨h1, h2⟩
    · rw [e]
      try dsimp only
      rw [if_pos rfl]
      exact ⟨u, rfl, hu.turned h.book r3⟩
    · obtain ⟨j, hj, e⟩ := mem_enD h1
      obtain ⟨v, g1, g2⟩ := h.look j hj
      rw [e] at g1 g2
      try dsimp only
      rw [if_neg h2]
      exact ⟨v, g1, g2.turned h.book r3⟩
end Go.Proofs.YtiolhjjkjmepcaaGreatDoor

/- A range over a log's book: which entries have come. -/
namespace Go.Proofs.YtiolhjjkjmepcaaGreatDoor
open Go.RowKit
open Go.Maps (Keyed IsMap)
set_option linter.unusedVariables false
set_option maxRecDepth 100000

/-- A range over the book of E, by the iterator r: the entries at the places V have come. -/
def BkR (w : World) (bb r : Nat) (E : List En) (U : Nat → Value) (V : List Nat) (cnt : Nat) : Prop :=
  ∃ (n : Nat) (D : DataW Value) (left : Lit → Bool), w.ranges Tryz.prog 25 Rv bb r n D left cnt ∧ (∀ a, inR a → Maps.has D (klP a) = (mapE E U E.length a).isSome ∧ ∀ v, mapE E U E.length a = some v → ∀ zd, D.atKey (klP a) zd = .held v) ∧
    (∀ kl, left kl = true → Maps.has D kl = true) ∧ (∀ k, k < E.length → left (klP (E.getD k en0).id) = !decide (k ∈ V)) ∧ ∀ k ∈ V, k < E.length
theorem BkR.left {w : World} {bb r : Nat} {E : List En} {U : Nat → Value} {V : List Nat} {cnt : Nat} (h : BkR w bb r E U V cnt) : w.rangeLeft bb r = cnt := by
  obtain ⟨_, _, _, h, _⟩ := h; exact h.left_eq
theorem BkR.kept {w w' : World} {bb r : Nat} {E : List En} {U : Nat → Value} {V : List Nat} {cnt : Nat} (h : BkR w bb r E U V cnt) (hb : Below w.heap.size w w') : BkR w' bb r E U V cnt := by
  obtain ⟨n, D, left, h1, h2⟩ := h
  exact ⟨n, D, left, h1.kept (row := none) ⟨hb.os, hb.tape, hb.output, hb.size, fun i hi _ => hb.block i hi⟩ (by simp) (by simp), h2⟩
theorem BkR.lt {w : World} {bb r : Nat} {E : List En} {U : Nat → Value} {V : List Nat} {cnt : Nat} (h : BkR w bb r E U V cnt) : r < w.heap.size ∧ bb < w.heap.size ∧ r ≠ bb := by
  obtain ⟨n, D, left, h1, h2⟩ := h
  exact ⟨h1.lt, h1.owns.lt, h1.ne⟩

theorem below_turned {w0 w w' : World} {r : Nat} (h : Below w0.heap.size w0 w) (hg : w.grownBy w' (some r)) (hr : w0.heap.size ≤ r) : Below w0.heap.size w0 w' :=
  h.trans ⟨hg.os, hg.tape, hg.output, hg.size, fun k hk => hg.block k (Nat.lt_of_lt_of_le hk h.size) (fun e => by injection e with e; omega)⟩
theorem below_fresh {w0 w w' : World} (h : Below w0.heap.size w0 w) (hg : w.grownBy w' none) : Below w0.heap.size w0 w' :=
  h.trans ⟨hg.os, hg.tape, hg.output, hg.size, fun k hk => hg.block k (Nat.lt_of_lt_of_le hk h.size) (by simp)⟩
section
variable {w : World} {ops : Array Oper} {rest : List Oper} {o : Oper} {a : Act} {Q : Exit → Act → World → Prop}
/-- 'range b'. -/
theorem bk_range {w : World} (hg : o.guard = none) (m : Operand) (t : TypeId) (hop : o.op = Op.range t m) (e : TypeId) (ht : Tryz.prog.underlying t = some (.map 25 e)) {bb : Nat} {E : List En} {U : Nat → Value} (hv : logB E = true)
    (hm : a.eval m = .map (some bb)) (h : Book w bb E.length (mapE E U E.length))
    (hK : ∀ w' cnt, BkR w' bb w.heap.size E U [] cnt → w.grownBy w' none → w'.heap.size = w.heap.size + 1 → wpList Tryz.prog ops Q rest (a.put o.dst (.pointer (some ⟨w.heap.size, 0, none⟩))) w') :
    wpList Tryz.prog ops Q (o :: rest) a w := by
  obtain ⟨D, h1, h2⟩ := h
  refine wpList_range_own w hg m t hop 25 e id_law ht Rv bb _ D hm h1 fun w' r1 r2 r3 => hK w' _ ⟨_, D, _, r1, h2, fun _ x => x, fun k hk => ?_, fun _ h => nomatch h⟩ r2 r3
  rw [(h2 _ (inR_ok (log_num hv hk))).1, mapE_some (fun j hj hl => log_inj hv hl hk hj) _ (Nat.le_refl _) hk rfl]
  rfl
/-- The loop's step. -/
theorem bk_next {w : World} (hg : o.guard = none) (it : Operand) (hop : o.op = Op.next it false) {bb r : Nat} {E : List En} {U : Nat → Value} (hv : logB E = true) {V : List Nat} {cnt : Nat} (hit : a.eval it = .pointer (some ⟨r, 0, none⟩)) (h : BkR w bb r E U V cnt)
    (hDone : (∀ k, k < E.length → k ∈ V) → wpList Tryz.prog ops Q rest (a.put o.dst (.tuple #[.bool false])) w)
    (hMore : ∀ (k : Nat) (w' : World) (cnt' : Nat), k < E.length → BkR w' bb r E U (V ++ [k]) cnt' → cnt' < cnt → w.grownBy w' (some r) → w'.heap.size = w.heap.size →
      (Instr.entry (.pointer (some ⟨r, 0, none⟩))).run Tryz.prog w' = .ok (.tuple #[idv2 (E.getD k en0).id, env (E.getD k en0) (U k)]) w' → wpList Tryz.prog ops Q rest (a.put o.dst (.tuple #[.bool true, idv2 (E.getD k en0).id, env (E.getD k en0) (U k)])) w') :
    wpList Tryz.prog ops Q (o :: rest) a w := by
  obtain ⟨n, D, left, h1, h2, h3, h4, h5⟩ := h
  refine wpList_next_ranges (α := Pid) (β := Value) w hg it hop 25 id_law Rv idv2 id (fun key kl hk => by obtain ⟨x, e, _⟩ := key_inv hk; exact ⟨x, e⟩) (fun v y _ => ⟨v, rfl⟩) bb r n D left cnt hit h1 (fun hc hl => hDone fun k hk => ?_) fun x c kl y w' cnt' hkey hlk hRv hat hrg hlt hgr hsz hen => ?_
  · have := h4 k hk
    rw [hl] at this
    by_cases hin : k ∈ V
    · exact hin
    · simp [hin] at this
  · obtain ⟨x', ex, hx⟩ := key_inv hkey
    have exx : x = x' := by
      unfold idv2 at ex
      injection ex with ex
      have e1 := congrArg (fun x : Array Value => x[0]?) ex
      have e2 := congrArg (fun x : Array Value => x[1]?) ex
      simp at e1 e2
      exact Prod.ext e1 e2
    subst exx
    have hkl : kl = klP x := by have := key_of hx; rw [this] at hkey; injection hkey with e; exact e.symm
    subst hkl
    have hh := h3 _ hlk
    rw [(h2 x hx).1] at hh
    rcases mapE_look hv U x with ⟨k, hk, e1, e2⟩ | ⟨e1, e2⟩
    · subst e1
      have hc : c = env (E.getD k en0) (U k) := by
        have h6 := (h2 _ hx).2 _ e2 (.held c)
        rw [hat] at h6
        unfold Rv at hRv
        injection hRv with hRv
        rw [← hRv] at h6
        injection h6 with h6
      subst hc
      refine hMore k w' cnt' hk ⟨n, D, _, hrg, h2, fun kl' hl' => h3 kl' (by simp at hl'; exact hl'.1), fun j hj => ?_, fun j hj => ?_⟩ hlt hgr hsz hen
      · rw [h4 j hj]
        by_cases e : j = k
        · subst e
          rw [WideAt.sameKey_self (kl_key hx)]
          simp
        · have hne : klP (E.getD j en0).id ≠ klP (E.getD k en0).id := fun h => e (log_inj hv hj hk (kl_inj (inR_ok (log_num hv hj)) hx h))
          have hs : (klP (E.getD j en0).id).sameKey (klP (E.getD k en0).id) = false := by
            cases hs : (klP (E.getD j en0).id).sameKey (klP (E.getD k en0).id) with
            | false => rfl
            | true => exact absurd (WideAt.sameKey_eq hs) hne
          rw [hs]
          simp [e]
      · rcases List.mem_append.1 hj with hj | hj
        · exact h5 j hj
        · rw [List.mem_singleton] at hj; rw [hj]; exact hk
    · rw [e2] at hh; cases hh
end
end Go.Proofs.YtiolhjjkjmepcaaGreatDoor

/- The two errors, once they lie in their variables, do so in every later world. -/
namespace Go.Proofs.YtiolhjjkjmepcaaGreatDoor
open Go.RowKit
set_option linter.unusedVariables false

theorem SenIn.up {a0 a1 : Addr} {w w' : World} (h : SenIn a0 a1 w) (hb : Below w.heap.size w w') : SenIn a0 a1 w' := by
  obtain ⟨h0, h1, hne, c0, c1, t0, t1, b0, b1⟩ := h
  have l0 : 0 < w.heap.size := by simpa using World.block_lt_of_cell? w _ h0
  have l1 : 1 < w.heap.size := by simpa using World.block_lt_of_cell? w _ h1
  exact ⟨(hb.cell (p := ⟨0, 0, none⟩) l0).trans h0, (hb.cell (p := ⟨1, 0, none⟩) l1).trans h1, hne, c0, c1, t0, t1, (hb.block _ (lt_of_heap b0)).trans b0, (hb.block _ (lt_of_heap b1)).trans b1⟩
/-- The two errors are there. -/
def SenW (w : World) : Prop := ∃ a0 a1, SenIn a0 a1 w
theorem SenIn.low {a0 a1 : Addr} {B : Nat} {w w' : World} (h : SenIn a0 a1 w) (hB : w.heap.size = B) (hb : Below B w w') : SenIn a0 a1 w' := by subst hB; exact h.up hb
theorem lputR_lenT (E : List En) (X : En) : (lputR E X).1.length ≤ 12 := by
  unfold lputR
  split
  · rename_i g; exact g.2.2
  · simp
theorem takeR_len (E : List En) (X : En) : (takeR E X).1.length ≤ 12 := by
  unfold takeR
  split
  · exact lputR_lenT E X
  · simp
theorem fixR_len (E : List En) (X : En) : (fixR E X).1.length ≤ 12 := by
  unfold fixR
  split
  · rename_i g
    split
    · split
      · exact (log_of g.1).1
      · simp
    · exact lputR_lenT E X
  · simp
end Go.Proofs.YtiolhjjkjmepcaaGreatDoor

/- What the frames of the great door seat of ballots use: two listed errors beside math/bits' table. (doorLaid's number: as the seat's Tie has it.) -/
namespace Go.Proofs.YtiolhjjkjmepcaaGreatDoor
open Go.ChangeShapes Go.WideShapes Go.ChangeAt Go.RowKit
set_option linter.unusedVariables false
set_option maxRecDepth 100000

theorem g_fix : Tryz.prog.globalNamed "loop.example/leaderlesslog/impl.errFixed" = some 0 := by kernel_rfl
theorem g_pas : Tryz.prog.globalNamed "loop.example/leaderlesslog/impl.errPassed" = some 1 := by kernel_rfl
theorem gt_fix : (Tryz.prog.globals[0]?).map (·.type) = some 64 := by kernel_rfl
theorem gt_pas : (Tryz.prog.globals[1]?).map (·.type) = some 64 := by kernel_rfl
theorem c_es : Tryz.prog.cellsOf 199 = 1 := by kernel_rfl
theorem c_str : Tryz.prog.cellsOf 9 = 1 := by kernel_rfl
theorem star_es : "*" ++ "errors.errorString" = "*errors.errorString" := by decide
theorem row_es (u : TypeId) (h : Tryz.prog.typeName? 3 u = some "*errors.errorString") : u = 173 :=
  typeName_ptr_named (nm := "errors.errorString") (by rw [star_es]; kernel_rfl) (by kernel_rfl) (by decide) u (by rw [star_es]; exact h)

/-- The rows' list. -/
def listed : List (String × DataW Unit) := Rows.fnTakeRow.laid

theorem gl_of {W : World} (h : laidMetH Tryz.prog listed W) (hs : W.ShapedOpen Tryz.prog) :
    ∃ a0 a1, W.var? Tryz.prog "loop.example/leaderlesslog/impl.errFixed" = some #[errV a0] ∧ W.var? Tryz.prog "loop.example/leaderlesslog/impl.errPassed" = some #[errV a1] ∧ SenIn a0 a1 W := by
  have h : laidMet Tryz.prog listed W := by
    rw [MakeChecks.laidMetH_plain _ _ _ (by kernel_rfl)] at h; exact h
  obtain ⟨a0, a1, s0, s1, c0, c1, t0, t1, hv0, hv1, _, _, _, _, _, _, hne, hb0, hb1⟩ := laid_sentinels2 h g_fix gt_fix g_pas gt_pas Tryz.underlying64 row_es Tryz.underlying173 Tryz.underlying199 rfl rfl Tryz.underlying9 c_es c_str
  exact ⟨a0, a1, hv0, hv1, (World.var?_cell g_fix hv0 0).trans rfl, (World.var?_cell g_pas hv1 0).trans rfl, hne, c0, c1, t0, t1, hb0, hb1⟩
/-- The two named variables, read as what they hold. -/
theorem vr_two {H : Type} (enc : TypeId × Value → H) {X : World} {a0 a1 : Addr} (x0 : X.var? Tryz.prog "loop.example/leaderlesslog/impl.errFixed" = some #[errV a0]) (x1 : X.var? Tryz.prog "loop.example/leaderlesslog/impl.errPassed" = some #[errV a1]) (sp : Nat → Bool) :
    DataW.TrodVars enc Tryz.prog X sp ["loop.example/leaderlesslog/impl.errFixed", "loop.example/leaderlesslog/impl.errPassed"] [tok enc (errV a0), tok enc (errV a1)] [.cell 0 0, .cell 1 0] :=
  vars_read2 enc g_fix gt_fix Tryz.underlying64 x0 trivial g_pas gt_pas Tryz.underlying64 x1 trivial sp
theorem SenIn.var0 {a0 a1 : Addr} {W W' : World} (h : SenIn a0 a1 W) (hv : W.var? Tryz.prog "loop.example/leaderlesslog/impl.errFixed" = some #[errV a0]) (hb : Below W.heap.size W W') : W'.var? Tryz.prog "loop.example/leaderlesslog/impl.errFixed" = some #[errV a0] :=
  var?_below hb g_fix (by simpa using World.block_lt_of_cell? W _ h.1) hv
theorem SenIn.var1 {a0 a1 : Addr} {W W' : World} (h : SenIn a0 a1 W) (hv : W.var? Tryz.prog "loop.example/leaderlesslog/impl.errPassed" = some #[errV a1]) (hb : Below W.heap.size W W') : W'.var? Tryz.prog "loop.example/leaderlesslog/impl.errPassed" = some #[errV a1] :=
  var?_below hb g_pas (by simpa using World.block_lt_of_cell? W _ h.2.1) hv

/-- A world for the witness: as the door leaves it. -/
noncomputable def laidWorld (os : Os) : World := World.doorLaid Tryz.prog 47 os
theorem laid_met (os : Os) (args : Array Value) : laidMet Tryz.prog listed ((laidWorld os).forCall (fun _ _ => 0) ⟨#[], args, []⟩).memory :=
  laidMet_of_run' 8 (by kernel_rfl) (by kernel_rfl)
end Go.Proofs.YtiolhjjkjmepcaaGreatDoor
