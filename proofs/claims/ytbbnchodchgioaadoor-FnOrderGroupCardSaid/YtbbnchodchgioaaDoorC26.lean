/- Texts laid together. -/
import Derived.Test.YtbbnchodchgioaaDoorC25
/- The program's soonestFree. -/
namespace Go.Proofs.YtbbnchodchgioaaDoor
open Go.RowKit
set_option linter.unusedVariables false

theorem free_iff {N : List Nd} {i : Nat} {Q : List Nat} {f r : Nat → Nat} {rd : Bool} {T : Pid → Prop} (hi : i < N.length) (hG : GM N i Q f r rd) (hT : Clo N T) :
    (rd = true ∧ ¬ (∀ x, Sc (EI N) (N.getD i nd0).id x → T x) ∧ ∀ x, Rp (EI N) (N.getD i nd0).id x → T x ∨ Sc (EI N) (N.getD i nd0).id x) ↔ FreeI N T (N.getD i nd0).id := by
  constructor
  · rintro ⟨h1, h2, h3⟩
    exact ⟨mem_idsN.2 ⟨i, hi, rfl⟩, fun hh => h2 fun x hx => hT _ x hh hx.1, hG.rdy.1 h1, h3⟩
  · rintro ⟨h1, h2, h3, h4⟩
    exact ⟨hG.rdy.2 h3, fun hh => h2 (hh _ (.refl _)), h4⟩

/-- A group whose first node is the one at a place. -/
def GrpH (w : World) (gb : Nat) (N : List Nd) (U : Us) (i : Nat) : Prop := ∃ mb cap Q f r rd, GrpAt w gb N U i mb cap Q f r rd ∧ Q.getD 0 0 = i
theorem GM.self {N : List Nd} {i : Nat} {Q : List Nat} {f r : Nat → Nat} {rd : Bool} (h : GM N i Q f r rd) : i ∈ Q := (h.mem i).2 (.refl i)
theorem GrpAt.pos {w : World} {gb : Nat} {N : List Nd} {U : Us} {i mb cap : Nat} {Q : List Nat} {f r : Nat → Nat} {rd : Bool} (h : GrpAt w gb N U i mb cap Q f r rd) : 0 < Q.length := List.length_pos_of_mem h.gm.self
theorem GrpH.of {w : World} {gb : Nat} {N : List Nd} {U : Us} {i : Nat} (hv : nodB N = true) (hi : i < N.length) (h : Grp w gb N U i) : ∃ j, j < N.length ∧ GrpH w gb N U j ∧ Sc (EI N) (N.getD j nd0).id (N.getD i nd0).id := by
  obtain ⟨mb, cap, Q, f, r, rd, h⟩ := h
  have hp := h.pos
  have hm : Q.getD 0 0 ∈ Q := by rw [List.getD_eq_getElem?_getD, List.getElem?_eq_getElem hp]; exact List.getElem_mem hp
  have hs := (h.gm.mem _).1 hm
  have hj : Q.getD 0 0 < N.length := rt_lt hs.1 hi
  exact ⟨_, hj, ⟨mb, cap, Q, f, r, rd, ⟨h.gb, h.row, h.typ, h.cap, h.gm.move hs hv hi hj⟩, rfl⟩, ((sc_iff hv hi hj).1 hs).symm⟩
/-- The groups, and their first nodes' places. -/
structure GH (w : World) (N : List Nd) (U : Us) (gs : List Nat) (H : Nat → Nat) : Prop where
  at_ : ∀ j, j < gs.length → H j < N.length ∧ GrpH w (gs.getD j 0) N U (H j)
  cov : ∀ i, i < N.length → ∃ j, j < gs.length ∧ Sc (EI N) (N.getD (H j) nd0).id (N.getD i nd0).id
theorem GrpH.keep {w w' : World} {gb : Nat} {N : List Nd} {U : Us} {i : Nat} (h : GrpH w gb N U i) (he : Exv w w') : GrpH w' gb N U i := by
  obtain ⟨mb, cap, Q, f, r, rd, h, e⟩ := h; exact ⟨mb, cap, Q, f, r, rd, h.keep he, e⟩
theorem GH.keep {w w' : World} {N : List Nd} {U : Us} {gs : List Nat} {H : Nat → Nat} (h : GH w N U gs H) (he : Exv w w') : GH w' N U gs H := ⟨fun j hj => ⟨(h.at_ j hj).1, (h.at_ j hj).2.keep he⟩, h.cov⟩
theorem GH.of {w : World} {N : List Nd} {U : Us} {gs : List Nat} (hv : nodB N = true) (h : AllG w N U gs) : ∃ H, GH w N U gs H := by
  have h1 : ∀ j, ∃ i, j < gs.length → i < N.length ∧ GrpH w (gs.getD j 0) N U i := fun j => by
    by_cases hj : j < gs.length
    · obtain ⟨i, hi, hG⟩ := h.2 _ (getD_memN hj)
      obtain ⟨k, hk, hK, _⟩ := GrpH.of hv hi hG
      exact ⟨k, fun _ => ⟨hk, hK⟩⟩
    · exact ⟨0, fun hh => absurd hh hj⟩
  refine ⟨fun j => Classical.choose (h1 j), fun j hj => Classical.choose_spec (h1 j) hj, fun i hi => ?_⟩
  obtain ⟨b, hb, hG⟩ := h.1 i hi
  obtain ⟨j, hj, rfl⟩ := List.mem_iff_getElem.1 hb
  refine ⟨j, hj, ?_⟩
  obtain ⟨_, mb, cap, Q, f, r, rd, hA, _⟩ := Classical.choose_spec (h1 j) hj
  obtain ⟨mb', cap', Q', f', r', rd', hB⟩ := hG
  have e : gs[j] = gs.getD j 0 := by rw [List.getD_eq_getElem?_getD, List.getElem?_eq_getElem hj]; rfl
  rw [e] at hB
  exact bits_same hB.gm.ids hA.gm.ids (gb_same hB.gb hA.gb) (.refl _)

/-- What soonestFree has found among the first k groups. -/
def SfR (N : List Nd) (T : Pid → Prop) (gs : List Nat) (H : Nat → Nat) (k : Nat) (sv : Value) : Prop :=
  (sv = .pointer none ∧ ∀ j, j < k → ¬ FreeI N T (N.getD (H j) nd0).id) ∨
  ∃ j, j < k ∧ sv = pv (gs.getD j 0) ∧ FreeI N T (N.getD (H j) nd0).id ∧ ∀ j', j' < k → FreeI N T (N.getD (H j') nd0).id → H j' = H j ∨ soonK N (H j) (H j')
theorem SfR.start (N : List Nd) (T : Pid → Prop) (gs : List Nat) (H : Nat → Nat) : SfR N T gs H 0 (.pointer none) := .inl ⟨rfl, fun j hj => absurd hj (Nat.not_lt_zero _)⟩
theorem SfR.no {N : List Nd} {T : Pid → Prop} {gs : List Nat} {H : Nat → Nat} {k : Nat} {sv : Value} (h : SfR N T gs H k sv) (hn : ¬ FreeI N T (N.getD (H k) nd0).id) : SfR N T gs H (k + 1) sv := by
  rcases h with ⟨h1, h2⟩ | ⟨j, h1, h2, h3, h4⟩
  · exact .inl ⟨h1, up_to h2 hn⟩
  · exact .inr ⟨j, by omega, h2, h3, up_to (P := fun j' => FreeI N T (N.getD (H j') nd0).id → H j' = H j ∨ soonK N (H j) (H j')) h4 fun hh => absurd hh hn⟩
theorem SfR.first {N : List Nd} {T : Pid → Prop} {gs : List Nat} {H : Nat → Nat} {k : Nat} (h : ∀ j, j < k → ¬ FreeI N T (N.getD (H j) nd0).id) (hn : FreeI N T (N.getD (H k) nd0).id) : SfR N T gs H (k + 1) (pv (gs.getD k 0)) :=
  .inr ⟨k, by omega, rfl, hn, fun j' hj' hf => by
    by_cases e : j' = k
    · exact .inl (by rw [e])
    · exact absurd hf (h j' (by omega))⟩
theorem SfR.take {N : List Nd} {T : Pid → Prop} {gs : List Nat} {H : Nat → Nat} {k j : Nat} (h : ∀ j', j' < k → FreeI N T (N.getD (H j') nd0).id → H j' = H j ∨ soonK N (H j) (H j')) (hn : FreeI N T (N.getD (H k) nd0).id) (hs : soonK N (H k) (H j)) : SfR N T gs H (k + 1) (pv (gs.getD k 0)) :=
  .inr ⟨k, by omega, rfl, hn, fun j' hj' hf => by
    by_cases e : j' = k
    · exact .inl (by rw [e])
    · rcases h j' (by omega) hf with e | e
      · rw [e]; exact .inr hs
      · exact .inr (hs.trans e)⟩
theorem SfR.keep {N : List Nd} (hv : nodB N = true) {T : Pid → Prop} {gs : List Nat} {H : Nat → Nat} {k j : Nat} (hj : j < k) (hf : FreeI N T (N.getD (H j) nd0).id) (h : ∀ j', j' < k → FreeI N T (N.getD (H j') nd0).id → H j' = H j ∨ soonK N (H j) (H j')) (hk : H k < N.length) (hjl : H j < N.length) (hs : ¬ soonK N (H k) (H j)) : SfR N T gs H (k + 1) (pv (gs.getD j 0)) :=
  .inr ⟨j, by omega, rfl, hf, up_to (P := fun j' => FreeI N T (N.getD (H j') nd0).id → H j' = H j ∨ soonK N (H j) (H j')) h fun _ => by
    by_cases e : H k = H j
    · exact .inl e
    · exact .inr (soonK.tri hv hk hjl e hs)⟩

/-- What is read of a group: the row of its nodes, and the first one. -/
theorem GrpH.read {w : World} {gb : Nat} {N : List Nd} {U : Us} {i : Nat} (h : GrpH w gb N U i) : ∃ mb n cap ua un uc, w.cell? ⟨gb, 0, none⟩ = some (.slice (some ⟨mb, 0, none⟩) n cap) ∧ w.cell? ⟨mb, 0, none⟩ = some (.int .i64 (N.getD i nd0).id.1) ∧ w.cell? ⟨mb, 1, none⟩ = some (.int .i64 (N.getD i nd0).id.2) ∧ w.cell? ⟨mb, 2, none⟩ = some (.int .i64 (N.getD i nd0).seq) ∧ w.cell? ⟨mb, 3, none⟩ = some (.slice ua un uc) ∧ 0 < n ∧ n ≤ cap ∧ gb < w.heap.size ∧ mb < w.heap.size := by
  obtain ⟨mb, cap, Q, f, r, rd, h, e⟩ := h
  obtain ⟨c0, c1, c2, c3⟩ := h.row.cell h.pos
  rw [e] at c0 c1 c2 c3
  simp only [Nat.zero_mul, Nat.zero_add] at c0 c1 c2 c3
  exact ⟨mb, Q.length, cap, _, _, _, h.gb.c0, c0, c1, c2, c3, h.pos, h.cap, h.gb.lt, h.row.lt⟩

/-- What soonestFree leaves. -/
def SfP (N : List Nd) (T : Pid → Prop) (gs : List Nat) (H : Nat → Nat) (w : World) (e : Ending) (w' : World) : Prop := ∃ v, e = .returned v ∧ SfR N T gs H gs.length v ∧ Below w.heap.size w w'

set_option maxRecDepth 100000 in
set_option maxHeartbeats 4000000 in
theorem sfree_any (B0 : Nat) (gv : Value) (gs : List Nat) (N : List Nd) (U : Us) (H : Nat → Nat) (R : Nat → Nat) (T : Pid → Prop) (w : World) (hv : nodB N = true) (hrow : w.ownsRow B0 59 1 gv gs.length (gs.map pv)) (hgl : gs.length ≤ 12) (hH : GH w N U gs H) (hR : Bits R T) (hT : Clo N T) :
    Calls Tryd.prog 54 #[gv, setV R] w (SfP N T gs H w) := by
  have hv := Lib.hid hv
  have hT := Lib.hid hT
  have hR := Lib.hid hR
  have hH := Lib.hid hH
  have hrow := Lib.hid hrow
  obtain ⟨ga, gc, rfl⟩ := row_shape hrow.out
  have frg := fun (gb i mb cap : Nat) (Q : List Nat) (f r : Nat → Nat) (rd : Bool) (hi : i < N.length) (hG : GrpAt w gb N U i mb cap Q f r rd) (q : Bool) (hq : q = true ↔ FreeI N T (N.getD i nd0).id) (W : World) (hb : Below w.heap.size w W) =>
    (show Calls Tryd.prog 73 #[.pointer (some ⟨gb, 0, none⟩), setV R] W fun e w' => e = .returned (.bool q) ∧ Below W.heap.size W w' from
      (free_any gb _ f r R rd _ _ T W (hG.keep (Exv.of hb)).gb hG.gm.ids hG.gm.rch hR.out).mono (by
        rintro e w' ⟨⟨b, rfl, hbb⟩, B⟩
        exact ⟨ret_bool (Bool.eq_iff_iff.2 (hbb.trans ((free_iff hi hG.gm hT.out).trans hq.symm))), B⟩))
  have frg := Lib.hid frg
  have hA := heap_alloc_new w (.cells #[.int .u64 (R 0), .int .u64 (R 1), .int .u64 (R 2), .int .u64 (R 3), .int .u64 (R 4)] 56)
  have D0 := (Below.refl w.heap.size w).alloc (Nat.le_refl _) (.cells #[.int .u64 (R 0), .int .u64 (R 1), .int .u64 (R 2), .int .u64 (R 3), .int .u64 (R 4)] 56)
  have hA : Hid (Set5 (w.alloc (.cells #[.int .u64 (R 0), .int .u64 (R 1), .int .u64 (R 2), .int .u64 (R 3), .int .u64 (R 4)] 56)) w.heap.size R) := Lib.hid hA
  have D0 := Lib.hid D0
  obtain ⟨n, hn⟩ : ∃ n, Hid (gs.length = n) := ⟨_, Lib.hid rfl⟩
  rw [hn.out] at hgl ⊢
  unfold SfP
  rw [hn.out]
  unfold setV
  go_enter Tryd.func54, Tryd.ntmps54
  go_wp2_with fail
  go_loopw [5, 10] (fun sv i wr => ∃ k : Nat, k ≤ n ∧ i = .int .i64 k ∧ Hid (SfR N T gs H k sv) ∧ Hid (Set5 wr w.heap.size R) ∧ Hid (Below w.heap.size w wr)) (fun _ i _ => n - (intOf i).toNat)
  case atStart => exact ⟨0, Nat.zero_le _, rfl, Lib.hid (SfR.start _ _ _ _), hA, D0⟩
  case round =>
    clear hA D0
    rename_i sv i wr
    obtain ⟨k, hk, rfl, hS, hX, D⟩ := hrel
    by_cases hlt : k < n
    · have hkl : k < gs.length := by rw [hn.out]; exact hlt
      obtain ⟨g4, c4, hge⟩ := own_some hrow.out (by omega)
      have c0 : w.cell? ⟨g4, k, none⟩ = some (pv (gs.getD k 0)) := by
        have := hrow.out.cells (g := g4) (by rw [hge]; rfl) k (pv (gs.getD k 0)) (by rw [List.getElem?_map, List.getD_eq_getElem?_getD, List.getElem?_eq_getElem hkl]; rfl)
        rw [Addr.add_lit, Nat.zero_add] at this; exact this
      injection hge with hge _ hge3
      subst hge
      subst hge3
      have c0 := (D.out.cell (p := ⟨g4, k, none⟩) (World.block_lt_of_cell? _ _ c0)).trans c0
      have hg4 := World.block_lt_of_cell? _ _ c0
      dsimp only at hg4
      obtain ⟨hHl, hGH⟩ := hH.out.at_ k hkl
      have hGr := (hGH.keep (Exv.of D.out)).read
      obtain ⟨gb, hb⟩ : ∃ b, Hid (gs.getD k 0 = b) := ⟨_, Lib.hid rfl⟩
      rw [hb.out] at c0 hGH hGr
      unfold pv at c0
      obtain ⟨mb0, cap0, Q, f, r0, rd, hGA, _⟩ := hGH
      obtain ⟨s0, s1, s2, s3, s4⟩ := hX.out.five
      have sl := hX.out.lt
      obtain ⟨q, hq⟩ : ∃ q : Bool, Hid (q = true ↔ FreeI N T (N.getD (H k) nd0).id) := by
        by_cases h : FreeI N T (N.getD (H k) nd0).id
        · exact ⟨true, Lib.hid ⟨fun _ => h, fun _ => rfl⟩⟩
        · exact ⟨false, Lib.hid ⟨fun x => (nomatch x), fun x => absurd x h⟩⟩
      have fr := frg.out gb _ mb0 cap0 Q f r0 rd hHl hGA q hq.out
      unfold setV at fr
      have hXn : ∀ W, Below wr.heap.size wr W → Hid (Set5 W w.heap.size R) := fun W hW => Lib.hid (hX.out.up hW hX.out.lt)
      have hXn := Lib.hid hXn
      have hHl := Lib.hid hHl
      clear hGA
      cases q with
      | false =>
        have R1 := Lib.hid (hS.out.no (fun h => nomatch (hq.out.2 h)))
        clear hGr
        go_upto_region 5 with fail
        refine wp_region_held_drew (S := fun w' => w'.cell? ⟨w.heap.size, 0, none⟩ = some (.int .u64 (R 0)) ∧ w'.cell? ⟨w.heap.size, 1, none⟩ = some (.int .u64 (R 1)) ∧ w'.cell? ⟨w.heap.size, 2, none⟩ = some (.int .u64 (R 2)) ∧ w'.cell? ⟨w.heap.size, 3, none⟩ = some (.int .u64 (R 3)) ∧ w'.cell? ⟨w.heap.size, 4, none⟩ = some (.int .u64 (R 4)) ∧ Below wr.heap.size wr w') (by kernel_rfl) ⟨s0, s1, s2, s3, s4, Below.drew (Below.refl _ _)⟩ (fun hHeld => ?_)
        refine wpAnyH_take (i := 0) (oi := ⟨some 14, _, _, _, _, _⟩) (v := ?_) rfl (by kernel_rfl) (by kernel_rfl) (by kernel_rfl) (fun _ _ _ h => h) (Or.inl ⟨by rfl, ?_⟩) (by assumption) ?_
        rotate_left 1
        · intro w hSw; (try dsimp only at hSw); go_simp; try (with_reducible rfl)
        try simp only [Act.put, List.setIfInBounds_toArray, List.set_cons_zero, List.set_cons_succ]
        refine wpAnyH_take (i := 1) (oi := ⟨some 15, _, _, _, _, _⟩) (v := ?_) rfl (by kernel_rfl) (by kernel_rfl) (by kernel_rfl) (fun _ _ _ h => h) (Or.inl ⟨by rfl, ?_⟩) (by assumption) ?_
        rotate_left 1
        · intro w hSw; (try dsimp only at hSw); go_simp; try (with_reducible rfl)
        try simp only [Act.put, List.setIfInBounds_toArray, List.set_cons_zero, List.set_cons_succ]
        refine wpAnyH_ready (rs := [2]) (by kernel_rfl) (by simp) ?_
        refine AllReadyH.cons (o := ⟨some 16, _, _, _, _, _⟩) rfl (fun K hK => ?_) AllReadyH.nil
        go_simp
        refine (fr _ (bstep D.out hHeld.2.2.2.2.2)).mono ?_
        rintro e w2 ⟨rfl, hb⟩
        go_wp2_with fail
        refine hK.out _ _ ?_ (fun hHeld2 => ?_)
        · exact ⟨cell_later hb hHeld.1, cell_later hb hHeld.2.1, cell_later hb hHeld.2.2.1, cell_later hb hHeld.2.2.2.1, cell_later hb hHeld.2.2.2.2.1, hHeld.2.2.2.2.2.trans (hb.mono hHeld.2.2.2.2.2.size)⟩
        clear hK K hHeld hb
        have hHeld := hHeld2
        clear hHeld2
        try simp only [Act.put, List.setIfInBounds_toArray, List.set_cons_zero, List.set_cons_succ]
        refine wpAnyH_take (i := 3) (oi := ⟨some 17, _, _, _, _, _⟩) (v := ?_) rfl (by kernel_rfl) (by kernel_rfl) (by kernel_rfl) (fun _ _ _ h => h) (Or.inl ⟨by rfl, ?_⟩) (by assumption) ?_
        rotate_left 1
        · intro w hSw; (try dsimp only at hSw); go_simp; try (with_reducible rfl)
        try simp only [Act.put, List.setIfInBounds_toArray, List.set_cons_zero, List.set_cons_succ]
        refine wpAnyH_take (i := 4) (oi := ⟨some 18, _, _, _, _, _⟩) (v := undef) rfl (by kernel_rfl) (by kernel_rfl) (by kernel_rfl) (fun _ _ _ h => h) (Or.inr ⟨by rfl, rfl⟩) (by assumption) ?_
        try simp only [Act.put, List.setIfInBounds_toArray, List.set_cons_zero, List.set_cons_succ]
        refine wpAnyH_take (i := 5) (oi := ⟨some 19, _, _, _, _, _⟩) (v := undef) rfl (by kernel_rfl) (by kernel_rfl) (by kernel_rfl) (fun _ _ _ h => h) (Or.inr ⟨by rfl, rfl⟩) (by assumption) ?_
        try simp only [Act.put, List.setIfInBounds_toArray, List.set_cons_zero, List.set_cons_succ]
        refine wpAnyH_take (i := 6) (oi := ⟨some 20, _, _, _, _, _⟩) (v := undef) rfl (by kernel_rfl) (by kernel_rfl) (by kernel_rfl) (fun _ _ _ h => h) (Or.inr ⟨by rfl, rfl⟩) (by assumption) ?_
        try simp only [Act.put, List.setIfInBounds_toArray, List.set_cons_zero, List.set_cons_succ]
        refine wpAnyH_take (i := 7) (oi := ⟨some 21, _, _, _, _, _⟩) (v := undef) rfl (by kernel_rfl) (by kernel_rfl) (by kernel_rfl) (fun _ _ _ h => h) (Or.inr ⟨by rfl, rfl⟩) (by assumption) ?_
        try simp only [Act.put, List.setIfInBounds_toArray, List.set_cons_zero, List.set_cons_succ]
        refine wpAnyH_take (i := 8) (oi := ⟨some 22, _, _, _, _, _⟩) (v := undef) rfl (by kernel_rfl) (by kernel_rfl) (by kernel_rfl) (fun _ _ _ h => h) (Or.inr ⟨by rfl, rfl⟩) (by assumption) ?_
        try simp only [Act.put, List.setIfInBounds_toArray, List.set_cons_zero, List.set_cons_succ]
        refine wpAnyH_take (i := 9) (oi := ⟨some 23, _, _, _, _, _⟩) (v := undef) rfl (by kernel_rfl) (by kernel_rfl) (by kernel_rfl) (fun _ _ _ h => h) (Or.inr ⟨by rfl, rfl⟩) (by assumption) ?_
        try simp only [Act.put, List.setIfInBounds_toArray, List.set_cons_zero, List.set_cons_succ]
        refine wpAnyH_take (i := 10) (oi := ⟨some 24, _, _, _, _, _⟩) (v := undef) rfl (by kernel_rfl) (by kernel_rfl) (by kernel_rfl) (fun _ _ _ h => h) (Or.inr ⟨by rfl, rfl⟩) (by assumption) ?_
        try simp only [Act.put, List.setIfInBounds_toArray, List.set_cons_zero, List.set_cons_succ]
        refine wpAnyH_take (i := 11) (oi := ⟨some 25, _, _, _, _, _⟩) (v := undef) rfl (by kernel_rfl) (by kernel_rfl) (by kernel_rfl) (fun _ _ _ h => h) (Or.inr ⟨by rfl, rfl⟩) (by assumption) ?_
        try simp only [Act.put, List.setIfInBounds_toArray, List.set_cons_zero, List.set_cons_succ]
        refine wpAnyH_take (i := 12) (oi := ⟨some 26, _, _, _, _, _⟩) (v := undef) rfl (by kernel_rfl) (by kernel_rfl) (by kernel_rfl) (fun _ _ _ h => h) (Or.inr ⟨by rfl, rfl⟩) (by assumption) ?_
        try simp only [Act.put, List.setIfInBounds_toArray, List.set_cons_zero, List.set_cons_succ]
        refine wpAnyH_take (i := 13) (oi := ⟨some 27, _, _, _, _, _⟩) (v := undef) rfl (by kernel_rfl) (by kernel_rfl) (by kernel_rfl) (fun _ _ _ h => h) (Or.inr ⟨by rfl, rfl⟩) (by assumption) ?_
        try simp only [Act.put, List.setIfInBounds_toArray, List.set_cons_zero, List.set_cons_succ]
        refine wpAnyH_take (i := 14) (oi := ⟨some 28, _, _, _, _, _⟩) (v := undef) rfl (by kernel_rfl) (by kernel_rfl) (by kernel_rfl) (fun _ _ _ h => h) (Or.inr ⟨by rfl, rfl⟩) (by assumption) ?_
        try simp only [Act.put, List.setIfInBounds_toArray, List.set_cons_zero, List.set_cons_succ]
        refine wpAnyH_take (i := 15) (oi := ⟨some 29, _, _, _, _, _⟩) (v := undef) rfl (by kernel_rfl) (by kernel_rfl) (by kernel_rfl) (fun _ _ _ h => h) (Or.inr ⟨by rfl, rfl⟩) (by assumption) ?_
        try simp only [Act.put, List.setIfInBounds_toArray, List.set_cons_zero, List.set_cons_succ]
        refine wpAnyH_take (i := 16) (oi := ⟨some 30, _, _, _, _, _⟩) (v := undef) rfl (by kernel_rfl) (by kernel_rfl) (by kernel_rfl) (fun _ _ _ h => h) (Or.inr ⟨by rfl, rfl⟩) (by assumption) ?_
        try simp only [Act.put, List.setIfInBounds_toArray, List.set_cons_zero, List.set_cons_succ]
        refine wpAnyH_take (i := 17) (oi := ⟨some 31, _, _, _, _, _⟩) (v := undef) rfl (by kernel_rfl) (by kernel_rfl) (by kernel_rfl) (fun _ _ _ h => h) (Or.inr ⟨by rfl, rfl⟩) (by assumption) ?_
        try simp only [Act.put, List.setIfInBounds_toArray, List.set_cons_zero, List.set_cons_succ]
        refine wpAnyH_take (i := 18) (oi := ⟨some 32, _, _, _, _, _⟩) (v := undef) rfl (by kernel_rfl) (by kernel_rfl) (by kernel_rfl) (fun _ _ _ h => h) (Or.inr ⟨by rfl, rfl⟩) (by assumption) ?_
        try simp only [Act.put, List.setIfInBounds_toArray, List.set_cons_zero, List.set_cons_succ]
        refine wpAnyH_take (i := 19) (oi := ⟨some 33, _, _, _, _, _⟩) (v := undef) rfl (by kernel_rfl) (by kernel_rfl) (by kernel_rfl) (fun _ _ _ h => h) (Or.inr ⟨by rfl, rfl⟩) (by assumption) ?_
        try simp only [Act.put, List.setIfInBounds_toArray, List.set_cons_zero, List.set_cons_succ]
        refine wpAnyH_take (i := 20) (oi := ⟨some 34, _, _, _, _, _⟩) (v := undef) rfl (by kernel_rfl) (by kernel_rfl) (by kernel_rfl) (fun _ _ _ h => h) (Or.inr ⟨by rfl, rfl⟩) (by assumption) ?_
        try simp only [Act.put, List.setIfInBounds_toArray, List.set_cons_zero, List.set_cons_succ]
        refine wpAnyH_take (i := 21) (oi := ⟨some 35, _, _, _, _, _⟩) (v := undef) rfl (by kernel_rfl) (by kernel_rfl) (by kernel_rfl) (fun _ _ _ h => h) (Or.inr ⟨by rfl, rfl⟩) (by assumption) ?_
        try simp only [Act.put, List.setIfInBounds_toArray, List.set_cons_zero, List.set_cons_succ]
        refine wpAnyH_take (i := 22) (oi := ⟨some 36, _, _, _, _, _⟩) (v := ?_) rfl (by kernel_rfl) (by kernel_rfl) (by kernel_rfl) (fun _ _ _ h => h) (Or.inl ⟨by rfl, ?_⟩) (by assumption) ?_
        rotate_left 1
        · intro w hSw; (try dsimp only at hSw); go_simp; try (with_reducible rfl)
        try simp only [Act.put, List.setIfInBounds_toArray, List.set_cons_zero, List.set_cons_succ]
        refine wpAnyH_done (by kernel_rfl) ?_ _
        try simp only [Act.put, List.setIfInBounds_toArray, List.set_cons_zero, List.set_cons_succ]
        have D2 := Lib.hid (bstep D.out hHeld.2.2.2.2.2)
        have X2 := hXn.out _ hHeld.2.2.2.2.2
        clear hHeld D s0 s1 s2 s3 s4 hX c0 hg4
        go_wp2_with fail
        go_roundw
        case rel => exact ⟨k + 1, by omega, by go_num, R1, X2, D2⟩
        case measure => simp [intOf]; omega
      | true =>
        obtain ⟨mb, n1, cap1, ua, un, uc, a0, a1, a2, a3, a4, hn1, hcap1, hgbl, hmbl⟩ := hGr
        obtain ⟨nd, hnd⟩ : ∃ x, Hid (N.getD (H k) nd0 = x) := ⟨_, Lib.hid rfl⟩
        rw [hnd.out] at a1 a2 a3
        obtain ⟨⟨p, r⟩, s, _⟩ := nd
        dsimp only at a1 a2 a3
        have hfk := Lib.hid (hq.out.1 rfl)
        rcases hS.out with ⟨rfl, hno⟩ | ⟨j, hjk, rfl, hjf, hjm⟩
        · have R1 : Hid (SfR N T gs H (k + 1) (.pointer (some ⟨gb, 0, none⟩))) := Lib.hid (by
            have := SfR.first (gs := gs) hno hfk.out
            rw [hb.out] at this; exact this)
          have hno := Lib.hid hno
          have hS := Lib.hid hS
          go_upto_region 5 with fail
          refine wp_region_held_drew (S := fun w' => w'.cell? ⟨w.heap.size, 0, none⟩ = some (.int .u64 (R 0)) ∧ w'.cell? ⟨w.heap.size, 1, none⟩ = some (.int .u64 (R 1)) ∧ w'.cell? ⟨w.heap.size, 2, none⟩ = some (.int .u64 (R 2)) ∧ w'.cell? ⟨w.heap.size, 3, none⟩ = some (.int .u64 (R 3)) ∧ w'.cell? ⟨w.heap.size, 4, none⟩ = some (.int .u64 (R 4)) ∧ w'.cell? ⟨gb, 0, none⟩ = some (.slice (some ⟨mb, 0, none⟩) n1 cap1) ∧ w'.cell? ⟨mb, 0, none⟩ = some (.int .i64 p) ∧ w'.cell? ⟨mb, 1, none⟩ = some (.int .i64 r) ∧ w'.cell? ⟨mb, 2, none⟩ = some (.int .i64 s) ∧ w'.cell? ⟨mb, 3, none⟩ = some (.slice ua un uc) ∧ Below wr.heap.size wr w') (by kernel_rfl) ⟨s0, s1, s2, s3, s4, a0, a1, a2, a3, a4, Below.drew (Below.refl _ _)⟩ (fun hHeld => ?_)
          refine wpAnyH_take (i := 0) (oi := ⟨some 14, _, _, _, _, _⟩) (v := ?_) rfl (by kernel_rfl) (by kernel_rfl) (by kernel_rfl) (fun _ _ _ h => h) (Or.inl ⟨by rfl, ?_⟩) (by assumption) ?_
          rotate_left 1
          · intro w hSw; (try dsimp only at hSw); go_simp; try (with_reducible rfl)
          try simp only [Act.put, List.setIfInBounds_toArray, List.set_cons_zero, List.set_cons_succ]
          refine wpAnyH_take (i := 1) (oi := ⟨some 15, _, _, _, _, _⟩) (v := ?_) rfl (by kernel_rfl) (by kernel_rfl) (by kernel_rfl) (fun _ _ _ h => h) (Or.inl ⟨by rfl, ?_⟩) (by assumption) ?_
          rotate_left 1
          · intro w hSw; (try dsimp only at hSw); go_simp; try (with_reducible rfl)
          try simp only [Act.put, List.setIfInBounds_toArray, List.set_cons_zero, List.set_cons_succ]
          refine wpAnyH_ready (rs := [2]) (by kernel_rfl) (by simp) ?_
          refine AllReadyH.cons (o := ⟨some 16, _, _, _, _, _⟩) rfl (fun K hK => ?_) AllReadyH.nil
          go_simp
          refine (fr _ (bstep D.out hHeld.2.2.2.2.2.2.2.2.2.2)).mono ?_
          rintro e w2 ⟨rfl, hb⟩
          go_wp2_with fail
          refine hK.out _ _ ?_ (fun hHeld2 => ?_)
          · exact ⟨cell_later hb hHeld.1, cell_later hb hHeld.2.1, cell_later hb hHeld.2.2.1, cell_later hb hHeld.2.2.2.1, cell_later hb hHeld.2.2.2.2.1, cell_later hb hHeld.2.2.2.2.2.1, cell_later hb hHeld.2.2.2.2.2.2.1, cell_later hb hHeld.2.2.2.2.2.2.2.1, cell_later hb hHeld.2.2.2.2.2.2.2.2.1, cell_later hb hHeld.2.2.2.2.2.2.2.2.2.1, hHeld.2.2.2.2.2.2.2.2.2.2.trans (hb.mono hHeld.2.2.2.2.2.2.2.2.2.2.size)⟩
          clear hK K hHeld hb
          have hHeld := hHeld2
          clear hHeld2
          try simp only [Act.put, List.setIfInBounds_toArray, List.set_cons_zero, List.set_cons_succ]
          refine wpAnyH_take (i := 3) (oi := ⟨some 17, _, _, _, _, _⟩) (v := ?_) rfl (by kernel_rfl) (by kernel_rfl) (by kernel_rfl) (fun _ _ _ h => h) (Or.inl ⟨by rfl, ?_⟩) (by assumption) ?_
          rotate_left 1
          · intro w hSw; (try dsimp only at hSw); go_simp; try (with_reducible rfl)
          try simp only [Act.put, List.setIfInBounds_toArray, List.set_cons_zero, List.set_cons_succ]
          refine wpAnyH_take (i := 4) (oi := ⟨some 18, _, _, _, _, _⟩) (v := ?_) rfl (by kernel_rfl) (by kernel_rfl) (by kernel_rfl) (fun _ _ _ h => h) (Or.inl ⟨by rfl, ?_⟩) (by assumption) ?_
          rotate_left 1
          · intro w hSw; (try dsimp only at hSw); go_simp; try (with_reducible rfl)
          try simp only [Act.put, List.setIfInBounds_toArray, List.set_cons_zero, List.set_cons_succ]
          refine wpAnyH_take (i := 5) (oi := ⟨some 19, _, _, _, _, _⟩) (v := ?_) rfl (by kernel_rfl) (by kernel_rfl) (by kernel_rfl) (fun _ _ _ h => h) (Or.inl ⟨by rfl, ?_⟩) (by assumption) ?_
          rotate_left 1
          · intro w hSw; (try dsimp only at hSw); go_simp; try (with_reducible rfl)
          try simp only [Act.put, List.setIfInBounds_toArray, List.set_cons_zero, List.set_cons_succ]
          refine wpAnyH_take (i := 6) (oi := ⟨some 20, _, _, _, _, _⟩) (v := ?_) rfl (by kernel_rfl) (by kernel_rfl) (by kernel_rfl) (fun _ _ _ h => h) (Or.inl ⟨by rfl, ?_⟩) (by assumption) ?_
          rotate_left 1
          · intro w hSw; (try dsimp only at hSw); go_simp; try (with_reducible rfl)
          try simp only [Act.put, List.setIfInBounds_toArray, List.set_cons_zero, List.set_cons_succ]
          refine wpAnyH_take (i := 7) (oi := ⟨some 21, _, _, _, _, _⟩) (v := undef) rfl (by kernel_rfl) (by kernel_rfl) (by kernel_rfl) (fun _ _ _ h => h) (Or.inr ⟨by rfl, rfl⟩) (by assumption) ?_
          try simp only [Act.put, List.setIfInBounds_toArray, List.set_cons_zero, List.set_cons_succ]
          refine wpAnyH_take (i := 8) (oi := ⟨some 22, _, _, _, _, _⟩) (v := undef) rfl (by kernel_rfl) (by kernel_rfl) (by kernel_rfl) (fun _ _ _ h => h) (Or.inr ⟨by rfl, rfl⟩) (by assumption) ?_
          try simp only [Act.put, List.setIfInBounds_toArray, List.set_cons_zero, List.set_cons_succ]
          refine wpAnyH_take (i := 9) (oi := ⟨some 23, _, _, _, _, _⟩) (v := undef) rfl (by kernel_rfl) (by kernel_rfl) (by kernel_rfl) (fun _ _ _ h => h) (Or.inr ⟨by rfl, rfl⟩) (by assumption) ?_
          try simp only [Act.put, List.setIfInBounds_toArray, List.set_cons_zero, List.set_cons_succ]
          refine wpAnyH_take (i := 10) (oi := ⟨some 24, _, _, _, _, _⟩) (v := undef) rfl (by kernel_rfl) (by kernel_rfl) (by kernel_rfl) (fun _ _ _ h => h) (Or.inr ⟨by rfl, rfl⟩) (by assumption) ?_
          try simp only [Act.put, List.setIfInBounds_toArray, List.set_cons_zero, List.set_cons_succ]
          refine wpAnyH_take (i := 11) (oi := ⟨some 25, _, _, _, _, _⟩) (v := undef) rfl (by kernel_rfl) (by kernel_rfl) (by kernel_rfl) (fun _ _ _ h => h) (Or.inr ⟨by rfl, rfl⟩) (by assumption) ?_
          try simp only [Act.put, List.setIfInBounds_toArray, List.set_cons_zero, List.set_cons_succ]
          refine wpAnyH_take (i := 12) (oi := ⟨some 26, _, _, _, _, _⟩) (v := undef) rfl (by kernel_rfl) (by kernel_rfl) (by kernel_rfl) (fun _ _ _ h => h) (Or.inr ⟨by rfl, rfl⟩) (by assumption) ?_
          try simp only [Act.put, List.setIfInBounds_toArray, List.set_cons_zero, List.set_cons_succ]
          refine wpAnyH_take (i := 13) (oi := ⟨some 27, _, _, _, _, _⟩) (v := undef) rfl (by kernel_rfl) (by kernel_rfl) (by kernel_rfl) (fun _ _ _ h => h) (Or.inr ⟨by rfl, rfl⟩) (by assumption) ?_
          try simp only [Act.put, List.setIfInBounds_toArray, List.set_cons_zero, List.set_cons_succ]
          refine wpAnyH_take (i := 14) (oi := ⟨some 28, _, _, _, _, _⟩) (v := undef) rfl (by kernel_rfl) (by kernel_rfl) (by kernel_rfl) (fun _ _ _ h => h) (Or.inr ⟨by rfl, rfl⟩) (by assumption) ?_
          try simp only [Act.put, List.setIfInBounds_toArray, List.set_cons_zero, List.set_cons_succ]
          refine wpAnyH_take (i := 15) (oi := ⟨some 29, _, _, _, _, _⟩) (v := undef) rfl (by kernel_rfl) (by kernel_rfl) (by kernel_rfl) (fun _ _ _ h => h) (Or.inr ⟨by rfl, rfl⟩) (by assumption) ?_
          try simp only [Act.put, List.setIfInBounds_toArray, List.set_cons_zero, List.set_cons_succ]
          refine wpAnyH_take (i := 16) (oi := ⟨some 30, _, _, _, _, _⟩) (v := undef) rfl (by kernel_rfl) (by kernel_rfl) (by kernel_rfl) (fun _ _ _ h => h) (Or.inr ⟨by rfl, rfl⟩) (by assumption) ?_
          try simp only [Act.put, List.setIfInBounds_toArray, List.set_cons_zero, List.set_cons_succ]
          refine wpAnyH_take (i := 17) (oi := ⟨some 31, _, _, _, _, _⟩) (v := undef) rfl (by kernel_rfl) (by kernel_rfl) (by kernel_rfl) (fun _ _ _ h => h) (Or.inr ⟨by rfl, rfl⟩) (by assumption) ?_
          try simp only [Act.put, List.setIfInBounds_toArray, List.set_cons_zero, List.set_cons_succ]
          refine wpAnyH_take (i := 18) (oi := ⟨some 32, _, _, _, _, _⟩) (v := undef) rfl (by kernel_rfl) (by kernel_rfl) (by kernel_rfl) (fun _ _ _ h => h) (Or.inr ⟨by rfl, rfl⟩) (by assumption) ?_
          try simp only [Act.put, List.setIfInBounds_toArray, List.set_cons_zero, List.set_cons_succ]
          refine wpAnyH_take (i := 19) (oi := ⟨some 33, _, _, _, _, _⟩) (v := undef) rfl (by kernel_rfl) (by kernel_rfl) (by kernel_rfl) (fun _ _ _ h => h) (Or.inr ⟨by rfl, rfl⟩) (by assumption) ?_
          try simp only [Act.put, List.setIfInBounds_toArray, List.set_cons_zero, List.set_cons_succ]
          refine wpAnyH_take (i := 20) (oi := ⟨some 34, _, _, _, _, _⟩) (v := undef) rfl (by kernel_rfl) (by kernel_rfl) (by kernel_rfl) (fun _ _ _ h => h) (Or.inr ⟨by rfl, rfl⟩) (by assumption) ?_
          try simp only [Act.put, List.setIfInBounds_toArray, List.set_cons_zero, List.set_cons_succ]
          refine wpAnyH_take (i := 21) (oi := ⟨some 35, _, _, _, _, _⟩) (v := ?_) rfl (by kernel_rfl) (by kernel_rfl) (by kernel_rfl) (fun _ _ _ h => h) (Or.inl ⟨by rfl, ?_⟩) (by assumption) ?_
          rotate_left 1
          · intro w hSw; (try dsimp only at hSw); go_simp; try (with_reducible rfl)
          try simp only [Act.put, List.setIfInBounds_toArray, List.set_cons_zero, List.set_cons_succ]
          refine wpAnyH_take (i := 22) (oi := ⟨some 36, _, _, _, _, _⟩) (v := ?_) rfl (by kernel_rfl) (by kernel_rfl) (by kernel_rfl) (fun _ _ _ h => h) (Or.inl ⟨by rfl, ?_⟩) (by assumption) ?_
          rotate_left 1
          · intro w hSw; (try dsimp only at hSw); go_simp; try (with_reducible rfl)
          try simp only [Act.put, List.setIfInBounds_toArray, List.set_cons_zero, List.set_cons_succ]
          refine wpAnyH_done (by kernel_rfl) ?_ _
          try simp only [Act.put, List.setIfInBounds_toArray, List.set_cons_zero, List.set_cons_succ]
          have D2 := Lib.hid (bstep D.out hHeld.2.2.2.2.2.2.2.2.2.2)
          have X2 := hXn.out _ hHeld.2.2.2.2.2.2.2.2.2.2
          clear hHeld D s0 s1 s2 s3 s4 hX c0 hg4 a0 a1 a2 a3 a4
          go_wp2_with fail
          go_roundw
          case rel => exact ⟨k + 1, by omega, by go_num, R1, X2, D2⟩
          case measure => simp [intOf]; omega
        · obtain ⟨hHj, hGj⟩ := hH.out.at_ j (by omega)
          obtain ⟨mb', n2, cap2, ua', un', uc', b0, b1, b2, b3, b4, hn2, hcap2, hsbl, hmbl'⟩ := (hGj.keep (Exv.of D.out)).read
          have hcmp : (N.getD (H k) nd0).seq < (N.getD (H j) nd0).seq ∨ (N.getD (H k) nd0).seq = (N.getD (H j) nd0).seq ∧ ltB (N.getD (H k) nd0).id.1 (N.getD (H k) nd0).id.2 (N.getD (H j) nd0).id.1 (N.getD (H j) nd0).id.2 = true ↔ soonK N (H k) (H j) := Iff.rfl
          obtain ⟨sb, hsb⟩ : ∃ b, Hid (gs.getD j 0 = b) := ⟨_, Lib.hid rfl⟩
          obtain ⟨nd', hnd'⟩ : ∃ x, Hid (N.getD (H j) nd0 = x) := ⟨_, Lib.hid rfl⟩
          rw [hnd.out, hnd'.out] at hcmp
          rw [hnd'.out] at b1 b2 b3
          rw [hsb.out] at b0 hsbl
          unfold pv
          rw [hsb.out]
          obtain ⟨⟨p', r'⟩, s', _⟩ := nd'
          dsimp only at b1 b2 b3 hcmp
          have cm := fun W => cmpD_any p r s ua un uc p' r' s' ua' un' uc' W
          have hz := (cmpD_neg (s := s) (s' := s') (p := p) (r := r) (p' := p') (r' := r')).trans hcmp
          obtain ⟨z, hze⟩ : ∃ z, cmpD s s' p r p' r' = z := ⟨_, rfl⟩
          rw [hze] at cm hz
          have hz := Lib.hid hz
          have hjm := Lib.hid hjm
          have hjf := Lib.hid hjf
          have hS := Lib.hid hS
          clear hze hcmp hGj
          by_cases hz0 : z < 0
          · have R1 : Hid (SfR N T gs H (k + 1) (.pointer (some ⟨gb, 0, none⟩))) := Lib.hid (by
              have := SfR.take (gs := gs) hjm.out hfk.out (hz.out.1 hz0)
              rw [hb.out] at this; exact this)
            go_upto_region 5 with fail
            refine wp_region_held_drew (S := fun w' => w'.cell? ⟨w.heap.size, 0, none⟩ = some (.int .u64 (R 0)) ∧ w'.cell? ⟨w.heap.size, 1, none⟩ = some (.int .u64 (R 1)) ∧ w'.cell? ⟨w.heap.size, 2, none⟩ = some (.int .u64 (R 2)) ∧ w'.cell? ⟨w.heap.size, 3, none⟩ = some (.int .u64 (R 3)) ∧ w'.cell? ⟨w.heap.size, 4, none⟩ = some (.int .u64 (R 4)) ∧ w'.cell? ⟨gb, 0, none⟩ = some (.slice (some ⟨mb, 0, none⟩) n1 cap1) ∧ w'.cell? ⟨mb, 0, none⟩ = some (.int .i64 p) ∧ w'.cell? ⟨mb, 1, none⟩ = some (.int .i64 r) ∧ w'.cell? ⟨mb, 2, none⟩ = some (.int .i64 s) ∧ w'.cell? ⟨mb, 3, none⟩ = some (.slice ua un uc) ∧ w'.cell? ⟨sb, 0, none⟩ = some (.slice (some ⟨mb', 0, none⟩) n2 cap2) ∧ w'.cell? ⟨mb', 0, none⟩ = some (.int .i64 p') ∧ w'.cell? ⟨mb', 1, none⟩ = some (.int .i64 r') ∧ w'.cell? ⟨mb', 2, none⟩ = some (.int .i64 s') ∧ w'.cell? ⟨mb', 3, none⟩ = some (.slice ua' un' uc') ∧ Below wr.heap.size wr w') (by kernel_rfl) ⟨s0, s1, s2, s3, s4, a0, a1, a2, a3, a4, b0, b1, b2, b3, b4, Below.drew (Below.refl _ _)⟩ (fun hHeld => ?_)
            refine wpAnyH_take (i := 0) (oi := ⟨some 14, _, _, _, _, _⟩) (v := ?_) rfl (by kernel_rfl) (by kernel_rfl) (by kernel_rfl) (fun _ _ _ h => h) (Or.inl ⟨by rfl, ?_⟩) (by assumption) ?_
            rotate_left 1
            · intro w hSw; (try dsimp only at hSw); go_simp; try (with_reducible rfl)
            try simp only [Act.put, List.setIfInBounds_toArray, List.set_cons_zero, List.set_cons_succ]
            refine wpAnyH_take (i := 1) (oi := ⟨some 15, _, _, _, _, _⟩) (v := ?_) rfl (by kernel_rfl) (by kernel_rfl) (by kernel_rfl) (fun _ _ _ h => h) (Or.inl ⟨by rfl, ?_⟩) (by assumption) ?_
            rotate_left 1
            · intro w hSw; (try dsimp only at hSw); go_simp; try (with_reducible rfl)
            try simp only [Act.put, List.setIfInBounds_toArray, List.set_cons_zero, List.set_cons_succ]
            refine wpAnyH_ready (rs := [2]) (by kernel_rfl) (by simp) ?_
            refine AllReadyH.cons (o := ⟨some 16, _, _, _, _, _⟩) rfl (fun K hK => ?_) AllReadyH.nil
            go_simp
            refine (fr _ (bstep D.out hHeld.2.2.2.2.2.2.2.2.2.2.2.2.2.2.2)).mono ?_
            rintro e w2 ⟨rfl, hb⟩
            go_wp2_with fail
            refine hK.out _ _ ?_ (fun hHeld2 => ?_)
            · exact ⟨cell_later hb hHeld.1, cell_later hb hHeld.2.1, cell_later hb hHeld.2.2.1, cell_later hb hHeld.2.2.2.1, cell_later hb hHeld.2.2.2.2.1, cell_later hb hHeld.2.2.2.2.2.1, cell_later hb hHeld.2.2.2.2.2.2.1, cell_later hb hHeld.2.2.2.2.2.2.2.1, cell_later hb hHeld.2.2.2.2.2.2.2.2.1, cell_later hb hHeld.2.2.2.2.2.2.2.2.2.1, cell_later hb hHeld.2.2.2.2.2.2.2.2.2.2.1, cell_later hb hHeld.2.2.2.2.2.2.2.2.2.2.2.1, cell_later hb hHeld.2.2.2.2.2.2.2.2.2.2.2.2.1, cell_later hb hHeld.2.2.2.2.2.2.2.2.2.2.2.2.2.1, cell_later hb hHeld.2.2.2.2.2.2.2.2.2.2.2.2.2.2.1, hHeld.2.2.2.2.2.2.2.2.2.2.2.2.2.2.2.trans (hb.mono hHeld.2.2.2.2.2.2.2.2.2.2.2.2.2.2.2.size)⟩
            clear hK K hHeld hb
            have hHeld := hHeld2
            clear hHeld2
            try simp only [Act.put, List.setIfInBounds_toArray, List.set_cons_zero, List.set_cons_succ]
            refine wpAnyH_take (i := 3) (oi := ⟨some 17, _, _, _, _, _⟩) (v := ?_) rfl (by kernel_rfl) (by kernel_rfl) (by kernel_rfl) (fun _ _ _ h => h) (Or.inl ⟨by rfl, ?_⟩) (by assumption) ?_
            rotate_left 1
            · intro w hSw; (try dsimp only at hSw); go_simp; try (with_reducible rfl)
            try simp only [Act.put, List.setIfInBounds_toArray, List.set_cons_zero, List.set_cons_succ]
            refine wpAnyH_take (i := 4) (oi := ⟨some 18, _, _, _, _, _⟩) (v := ?_) rfl (by kernel_rfl) (by kernel_rfl) (by kernel_rfl) (fun _ _ _ h => h) (Or.inl ⟨by rfl, ?_⟩) (by assumption) ?_
            rotate_left 1
            · intro w hSw; (try dsimp only at hSw); go_simp; try (with_reducible rfl)
            try simp only [Act.put, List.setIfInBounds_toArray, List.set_cons_zero, List.set_cons_succ]
            refine wpAnyH_take (i := 5) (oi := ⟨some 19, _, _, _, _, _⟩) (v := ?_) rfl (by kernel_rfl) (by kernel_rfl) (by kernel_rfl) (fun _ _ _ h => h) (Or.inl ⟨by rfl, ?_⟩) (by assumption) ?_
            rotate_left 1
            · intro w hSw; (try dsimp only at hSw); go_simp; try (with_reducible rfl)
            try simp only [Act.put, List.setIfInBounds_toArray, List.set_cons_zero, List.set_cons_succ]
            refine wpAnyH_take (i := 6) (oi := ⟨some 20, _, _, _, _, _⟩) (v := ?_) rfl (by kernel_rfl) (by kernel_rfl) (by kernel_rfl) (fun _ _ _ h => h) (Or.inl ⟨by rfl, ?_⟩) (by assumption) ?_
            rotate_left 1
            · intro w hSw; (try dsimp only at hSw); go_simp; try (with_reducible rfl)
            try simp only [Act.put, List.setIfInBounds_toArray, List.set_cons_zero, List.set_cons_succ]
            refine wpAnyH_take (i := 7) (oi := ⟨some 21, _, _, _, _, _⟩) (v := ?_) rfl (by kernel_rfl) (by kernel_rfl) (by kernel_rfl) (fun _ _ _ h => h) (Or.inl ⟨by rfl, ?_⟩) (by assumption) ?_
            rotate_left 1
            · intro w hSw; (try dsimp only at hSw); go_simp; try (with_reducible rfl)
            try simp only [Act.put, List.setIfInBounds_toArray, List.set_cons_zero, List.set_cons_succ]
            refine wpAnyH_take (i := 8) (oi := ⟨some 22, _, _, _, _, _⟩) (v := ?_) rfl (by kernel_rfl) (by kernel_rfl) (by kernel_rfl) (fun _ _ _ h => h) (Or.inl ⟨by rfl, ?_⟩) (by assumption) ?_
            rotate_left 1
            · intro w hSw; (try dsimp only at hSw); go_simp; try (with_reducible rfl)
            try simp only [Act.put, List.setIfInBounds_toArray, List.set_cons_zero, List.set_cons_succ]
            refine wpAnyH_take (i := 9) (oi := ⟨some 23, _, _, _, _, _⟩) (v := ?_) rfl (by kernel_rfl) (by kernel_rfl) (by kernel_rfl) (fun _ _ _ h => h) (Or.inl ⟨by rfl, ?_⟩) (by assumption) ?_
            rotate_left 1
            · intro w hSw; (try dsimp only at hSw); go_simp; try (with_reducible rfl)
            try simp only [Act.put, List.setIfInBounds_toArray, List.set_cons_zero, List.set_cons_succ]
            refine wpAnyH_take (i := 10) (oi := ⟨some 24, _, _, _, _, _⟩) (v := ?_) rfl (by kernel_rfl) (by kernel_rfl) (by kernel_rfl) (fun _ _ _ h => h) (Or.inl ⟨by rfl, ?_⟩) (by assumption) ?_
            rotate_left 1
            · intro w hSw; (try dsimp only at hSw); go_simp; try (with_reducible rfl)
            try simp only [Act.put, List.setIfInBounds_toArray, List.set_cons_zero, List.set_cons_succ]
            refine wpAnyH_take (i := 11) (oi := ⟨some 25, _, _, _, _, _⟩) (v := ?_) rfl (by kernel_rfl) (by kernel_rfl) (by kernel_rfl) (fun _ _ _ h => h) (Or.inl ⟨by rfl, ?_⟩) (by assumption) ?_
            rotate_left 1
            · intro w hSw; (try dsimp only at hSw); go_simp; try (with_reducible rfl)
            try simp only [Act.put, List.setIfInBounds_toArray, List.set_cons_zero, List.set_cons_succ]
            refine wpAnyH_take (i := 12) (oi := ⟨some 26, _, _, _, _, _⟩) (v := ?_) rfl (by kernel_rfl) (by kernel_rfl) (by kernel_rfl) (fun _ _ _ h => h) (Or.inl ⟨by rfl, ?_⟩) (by assumption) ?_
            rotate_left 1
            · intro w hSw; (try dsimp only at hSw); go_simp; try (with_reducible rfl)
            try simp only [Act.put, List.setIfInBounds_toArray, List.set_cons_zero, List.set_cons_succ]
            refine wpAnyH_take (i := 13) (oi := ⟨some 27, _, _, _, _, _⟩) (v := ?_) rfl (by kernel_rfl) (by kernel_rfl) (by kernel_rfl) (fun _ _ _ h => h) (Or.inl ⟨by rfl, ?_⟩) (by assumption) ?_
            rotate_left 1
            · intro w hSw; (try dsimp only at hSw); go_simp; try (with_reducible rfl)
            try simp only [Act.put, List.setIfInBounds_toArray, List.set_cons_zero, List.set_cons_succ]
            refine wpAnyH_take (i := 14) (oi := ⟨some 28, _, _, _, _, _⟩) (v := ?_) rfl (by kernel_rfl) (by kernel_rfl) (by kernel_rfl) (fun _ _ _ h => h) (Or.inl ⟨by rfl, ?_⟩) (by assumption) ?_
            rotate_left 1
            · intro w hSw; (try dsimp only at hSw); go_simp; try (with_reducible rfl)
            try simp only [Act.put, List.setIfInBounds_toArray, List.set_cons_zero, List.set_cons_succ]
            refine wpAnyH_take (i := 15) (oi := ⟨some 29, _, _, _, _, _⟩) (v := ?_) rfl (by kernel_rfl) (by kernel_rfl) (by kernel_rfl) (fun _ _ _ h => h) (Or.inl ⟨by rfl, ?_⟩) (by assumption) ?_
            rotate_left 1
            · intro w hSw; (try dsimp only at hSw); go_simp; try (with_reducible rfl)
            try simp only [Act.put, List.setIfInBounds_toArray, List.set_cons_zero, List.set_cons_succ]
            refine wpAnyH_take (i := 16) (oi := ⟨some 30, _, _, _, _, _⟩) (v := ?_) rfl (by kernel_rfl) (by kernel_rfl) (by kernel_rfl) (fun _ _ _ h => h) (Or.inl ⟨by rfl, ?_⟩) (by assumption) ?_
            rotate_left 1
            · intro w hSw; (try dsimp only at hSw); go_simp; try (with_reducible rfl)
            try simp only [Act.put, List.setIfInBounds_toArray, List.set_cons_zero, List.set_cons_succ]
            refine wpAnyH_take (i := 17) (oi := ⟨some 31, _, _, _, _, _⟩) (v := ?_) rfl (by kernel_rfl) (by kernel_rfl) (by kernel_rfl) (fun _ _ _ h => h) (Or.inl ⟨by rfl, ?_⟩) (by assumption) ?_
            rotate_left 1
            · intro w hSw; (try dsimp only at hSw); go_simp; try (with_reducible rfl)
            try simp only [Act.put, List.setIfInBounds_toArray, List.set_cons_zero, List.set_cons_succ]
            refine wpAnyH_take (i := 18) (oi := ⟨some 32, _, _, _, _, _⟩) (v := ?_) rfl (by kernel_rfl) (by kernel_rfl) (by kernel_rfl) (fun _ _ _ h => h) (Or.inl ⟨by rfl, ?_⟩) (by assumption) ?_
            rotate_left 1
            · intro w hSw; (try dsimp only at hSw); go_simp; try (with_reducible rfl)
            try simp only [Act.put, List.setIfInBounds_toArray, List.set_cons_zero, List.set_cons_succ]
            refine wpAnyH_ready (rs := [19]) (by kernel_rfl) (by simp) ?_
            refine AllReadyH.cons (o := ⟨some 33, _, _, _, _, _⟩) rfl (fun K hK => ?_) AllReadyH.nil
            go_simp
            refine (cm _).mono ?_
            rintro e w3 ⟨rfl, hb⟩
            go_wp2_with fail
            refine hK.out _ _ ?_ (fun hHeld2 => ?_)
            · exact ⟨cell_later hb hHeld.1, cell_later hb hHeld.2.1, cell_later hb hHeld.2.2.1, cell_later hb hHeld.2.2.2.1, cell_later hb hHeld.2.2.2.2.1, cell_later hb hHeld.2.2.2.2.2.1, cell_later hb hHeld.2.2.2.2.2.2.1, cell_later hb hHeld.2.2.2.2.2.2.2.1, cell_later hb hHeld.2.2.2.2.2.2.2.2.1, cell_later hb hHeld.2.2.2.2.2.2.2.2.2.1, cell_later hb hHeld.2.2.2.2.2.2.2.2.2.2.1, cell_later hb hHeld.2.2.2.2.2.2.2.2.2.2.2.1, cell_later hb hHeld.2.2.2.2.2.2.2.2.2.2.2.2.1, cell_later hb hHeld.2.2.2.2.2.2.2.2.2.2.2.2.2.1, cell_later hb hHeld.2.2.2.2.2.2.2.2.2.2.2.2.2.2.1, hHeld.2.2.2.2.2.2.2.2.2.2.2.2.2.2.2.trans (hb.mono hHeld.2.2.2.2.2.2.2.2.2.2.2.2.2.2.2.size)⟩
            clear hK K hHeld hb
            have hHeld := hHeld2
            clear hHeld2
            try simp only [Act.put, List.setIfInBounds_toArray, List.set_cons_zero, List.set_cons_succ]
            refine wpAnyH_take (i := 20) (oi := ⟨some 34, _, _, _, _, _⟩) (v := ?_) rfl (by kernel_rfl) (by kernel_rfl) (by kernel_rfl) (fun _ _ _ h => h) (Or.inl ⟨by rfl, ?_⟩) (by assumption) ?_
            rotate_left 1
            · intro w hSw; (try dsimp only at hSw); go_simp; try (with_reducible rfl)
            try simp only [Act.put, List.setIfInBounds_toArray, List.set_cons_zero, List.set_cons_succ]
            refine wpAnyH_take (i := 21) (oi := ⟨some 35, _, _, _, _, _⟩) (v := ?_) rfl (by kernel_rfl) (by kernel_rfl) (by kernel_rfl) (fun _ _ _ h => h) (Or.inl ⟨by rfl, ?_⟩) (by assumption) ?_
            rotate_left 1
            · intro w hSw; (try dsimp only at hSw); go_simp; try (with_reducible rfl)
            try simp only [Act.put, List.setIfInBounds_toArray, List.set_cons_zero, List.set_cons_succ]
            refine wpAnyH_take (i := 22) (oi := ⟨some 36, _, _, _, _, _⟩) (v := ?_) rfl (by kernel_rfl) (by kernel_rfl) (by kernel_rfl) (fun _ _ _ h => h) (Or.inl ⟨by rfl, ?_⟩) (by assumption) ?_
            rotate_left 1
            · intro w hSw; (try dsimp only at hSw); go_simp; try (with_reducible rfl)
            try simp only [Act.put, List.setIfInBounds_toArray, List.set_cons_zero, List.set_cons_succ]
            refine wpAnyH_done (by kernel_rfl) ?_ _
            try simp only [Act.put, List.setIfInBounds_toArray, List.set_cons_zero, List.set_cons_succ]
            have D2 := Lib.hid (bstep D.out hHeld.2.2.2.2.2.2.2.2.2.2.2.2.2.2.2)
            have X2 := hXn.out _ hHeld.2.2.2.2.2.2.2.2.2.2.2.2.2.2.2
            clear hHeld D s0 s1 s2 s3 s4 hX c0 hg4 a0 a1 a2 a3 a4 b0 b1 b2 b3 b4
            go_wp2_with fail
            go_roundw
            case rel => exact ⟨k + 1, by omega, by go_num, R1, X2, D2⟩
            case measure => simp [intOf]; omega
          · have R1 : Hid (SfR N T gs H (k + 1) (.pointer (some ⟨sb, 0, none⟩))) := Lib.hid (by
              have := SfR.keep (gs := gs) hv.out hjk hjf.out hjm.out hHl.out hHj (fun h => hz0 (hz.out.2 h))
              rw [hsb.out] at this; exact this)
            go_upto_region 5 with fail
            refine wp_region_held_drew (S := fun w' => w'.cell? ⟨w.heap.size, 0, none⟩ = some (.int .u64 (R 0)) ∧ w'.cell? ⟨w.heap.size, 1, none⟩ = some (.int .u64 (R 1)) ∧ w'.cell? ⟨w.heap.size, 2, none⟩ = some (.int .u64 (R 2)) ∧ w'.cell? ⟨w.heap.size, 3, none⟩ = some (.int .u64 (R 3)) ∧ w'.cell? ⟨w.heap.size, 4, none⟩ = some (.int .u64 (R 4)) ∧ w'.cell? ⟨gb, 0, none⟩ = some (.slice (some ⟨mb, 0, none⟩) n1 cap1) ∧ w'.cell? ⟨mb, 0, none⟩ = some (.int .i64 p) ∧ w'.cell? ⟨mb, 1, none⟩ = some (.int .i64 r) ∧ w'.cell? ⟨mb, 2, none⟩ = some (.int .i64 s) ∧ w'.cell? ⟨mb, 3, none⟩ = some (.slice ua un uc) ∧ w'.cell? ⟨sb, 0, none⟩ = some (.slice (some ⟨mb', 0, none⟩) n2 cap2) ∧ w'.cell? ⟨mb', 0, none⟩ = some (.int .i64 p') ∧ w'.cell? ⟨mb', 1, none⟩ = some (.int .i64 r') ∧ w'.cell? ⟨mb', 2, none⟩ = some (.int .i64 s') ∧ w'.cell? ⟨mb', 3, none⟩ = some (.slice ua' un' uc') ∧ Below wr.heap.size wr w') (by kernel_rfl) ⟨s0, s1, s2, s3, s4, a0, a1, a2, a3, a4, b0, b1, b2, b3, b4, Below.drew (Below.refl _ _)⟩ (fun hHeld => ?_)
            refine wpAnyH_take (i := 0) (oi := ⟨some 14, _, _, _, _, _⟩) (v := ?_) rfl (by kernel_rfl) (by kernel_rfl) (by kernel_rfl) (fun _ _ _ h => h) (Or.inl ⟨by rfl, ?_⟩) (by assumption) ?_
            rotate_left 1
            · intro w hSw; (try dsimp only at hSw); go_simp; try (with_reducible rfl)
            try simp only [Act.put, List.setIfInBounds_toArray, List.set_cons_zero, List.set_cons_succ]
            refine wpAnyH_take (i := 1) (oi := ⟨some 15, _, _, _, _, _⟩) (v := ?_) rfl (by kernel_rfl) (by kernel_rfl) (by kernel_rfl) (fun _ _ _ h => h) (Or.inl ⟨by rfl, ?_⟩) (by assumption) ?_
            rotate_left 1
            · intro w hSw; (try dsimp only at hSw); go_simp; try (with_reducible rfl)
            try simp only [Act.put, List.setIfInBounds_toArray, List.set_cons_zero, List.set_cons_succ]
            refine wpAnyH_ready (rs := [2]) (by kernel_rfl) (by simp) ?_
            refine AllReadyH.cons (o := ⟨some 16, _, _, _, _, _⟩) rfl (fun K hK => ?_) AllReadyH.nil
            go_simp
            refine (fr _ (bstep D.out hHeld.2.2.2.2.2.2.2.2.2.2.2.2.2.2.2)).mono ?_
            rintro e w2 ⟨rfl, hb⟩
            go_wp2_with fail
            refine hK.out _ _ ?_ (fun hHeld2 => ?_)
            · exact ⟨cell_later hb hHeld.1, cell_later hb hHeld.2.1, cell_later hb hHeld.2.2.1, cell_later hb hHeld.2.2.2.1, cell_later hb hHeld.2.2.2.2.1, cell_later hb hHeld.2.2.2.2.2.1, cell_later hb hHeld.2.2.2.2.2.2.1, cell_later hb hHeld.2.2.2.2.2.2.2.1, cell_later hb hHeld.2.2.2.2.2.2.2.2.1, cell_later hb hHeld.2.2.2.2.2.2.2.2.2.1, cell_later hb hHeld.2.2.2.2.2.2.2.2.2.2.1, cell_later hb hHeld.2.2.2.2.2.2.2.2.2.2.2.1, cell_later hb hHeld.2.2.2.2.2.2.2.2.2.2.2.2.1, cell_later hb hHeld.2.2.2.2.2.2.2.2.2.2.2.2.2.1, cell_later hb hHeld.2.2.2.2.2.2.2.2.2.2.2.2.2.2.1, hHeld.2.2.2.2.2.2.2.2.2.2.2.2.2.2.2.trans (hb.mono hHeld.2.2.2.2.2.2.2.2.2.2.2.2.2.2.2.size)⟩
            clear hK K hHeld hb
            have hHeld := hHeld2
            clear hHeld2
            try simp only [Act.put, List.setIfInBounds_toArray, List.set_cons_zero, List.set_cons_succ]
            refine wpAnyH_take (i := 3) (oi := ⟨some 17, _, _, _, _, _⟩) (v := ?_) rfl (by kernel_rfl) (by kernel_rfl) (by kernel_rfl) (fun _ _ _ h => h) (Or.inl ⟨by rfl, ?_⟩) (by assumption) ?_
            rotate_left 1
            · intro w hSw; (try dsimp only at hSw); go_simp; try (with_reducible rfl)
            try simp only [Act.put, List.setIfInBounds_toArray, List.set_cons_zero, List.set_cons_succ]
            refine wpAnyH_take (i := 4) (oi := ⟨some 18, _, _, _, _, _⟩) (v := ?_) rfl (by kernel_rfl) (by kernel_rfl) (by kernel_rfl) (fun _ _ _ h => h) (Or.inl ⟨by rfl, ?_⟩) (by assumption) ?_
            rotate_left 1
            · intro w hSw; (try dsimp only at hSw); go_simp; try (with_reducible rfl)
            try simp only [Act.put, List.setIfInBounds_toArray, List.set_cons_zero, List.set_cons_succ]
            refine wpAnyH_take (i := 5) (oi := ⟨some 19, _, _, _, _, _⟩) (v := ?_) rfl (by kernel_rfl) (by kernel_rfl) (by kernel_rfl) (fun _ _ _ h => h) (Or.inl ⟨by rfl, ?_⟩) (by assumption) ?_
            rotate_left 1
            · intro w hSw; (try dsimp only at hSw); go_simp; try (with_reducible rfl)
            try simp only [Act.put, List.setIfInBounds_toArray, List.set_cons_zero, List.set_cons_succ]
            refine wpAnyH_take (i := 6) (oi := ⟨some 20, _, _, _, _, _⟩) (v := ?_) rfl (by kernel_rfl) (by kernel_rfl) (by kernel_rfl) (fun _ _ _ h => h) (Or.inl ⟨by rfl, ?_⟩) (by assumption) ?_
            rotate_left 1
            · intro w hSw; (try dsimp only at hSw); go_simp; try (with_reducible rfl)
            try simp only [Act.put, List.setIfInBounds_toArray, List.set_cons_zero, List.set_cons_succ]
            refine wpAnyH_take (i := 7) (oi := ⟨some 21, _, _, _, _, _⟩) (v := ?_) rfl (by kernel_rfl) (by kernel_rfl) (by kernel_rfl) (fun _ _ _ h => h) (Or.inl ⟨by rfl, ?_⟩) (by assumption) ?_
            rotate_left 1
            · intro w hSw; (try dsimp only at hSw); go_simp; try (with_reducible rfl)
            try simp only [Act.put, List.setIfInBounds_toArray, List.set_cons_zero, List.set_cons_succ]
            refine wpAnyH_take (i := 8) (oi := ⟨some 22, _, _, _, _, _⟩) (v := ?_) rfl (by kernel_rfl) (by kernel_rfl) (by kernel_rfl) (fun _ _ _ h => h) (Or.inl ⟨by rfl, ?_⟩) (by assumption) ?_
            rotate_left 1
            · intro w hSw; (try dsimp only at hSw); go_simp; try (with_reducible rfl)
            try simp only [Act.put, List.setIfInBounds_toArray, List.set_cons_zero, List.set_cons_succ]
            refine wpAnyH_take (i := 9) (oi := ⟨some 23, _, _, _, _, _⟩) (v := ?_) rfl (by kernel_rfl) (by kernel_rfl) (by kernel_rfl) (fun _ _ _ h => h) (Or.inl ⟨by rfl, ?_⟩) (by assumption) ?_
            rotate_left 1
            · intro w hSw; (try dsimp only at hSw); go_simp; try (with_reducible rfl)
            try simp only [Act.put, List.setIfInBounds_toArray, List.set_cons_zero, List.set_cons_succ]
            refine wpAnyH_take (i := 10) (oi := ⟨some 24, _, _, _, _, _⟩) (v := ?_) rfl (by kernel_rfl) (by kernel_rfl) (by kernel_rfl) (fun _ _ _ h => h) (Or.inl ⟨by rfl, ?_⟩) (by assumption) ?_
            rotate_left 1
            · intro w hSw; (try dsimp only at hSw); go_simp; try (with_reducible rfl)
            try simp only [Act.put, List.setIfInBounds_toArray, List.set_cons_zero, List.set_cons_succ]
            refine wpAnyH_take (i := 11) (oi := ⟨some 25, _, _, _, _, _⟩) (v := ?_) rfl (by kernel_rfl) (by kernel_rfl) (by kernel_rfl) (fun _ _ _ h => h) (Or.inl ⟨by rfl, ?_⟩) (by assumption) ?_
            rotate_left 1
            · intro w hSw; (try dsimp only at hSw); go_simp; try (with_reducible rfl)
            try simp only [Act.put, List.setIfInBounds_toArray, List.set_cons_zero, List.set_cons_succ]
            refine wpAnyH_take (i := 12) (oi := ⟨some 26, _, _, _, _, _⟩) (v := ?_) rfl (by kernel_rfl) (by kernel_rfl) (by kernel_rfl) (fun _ _ _ h => h) (Or.inl ⟨by rfl, ?_⟩) (by assumption) ?_
            rotate_left 1
            · intro w hSw; (try dsimp only at hSw); go_simp; try (with_reducible rfl)
            try simp only [Act.put, List.setIfInBounds_toArray, List.set_cons_zero, List.set_cons_succ]
            refine wpAnyH_take (i := 13) (oi := ⟨some 27, _, _, _, _, _⟩) (v := ?_) rfl (by kernel_rfl) (by kernel_rfl) (by kernel_rfl) (fun _ _ _ h => h) (Or.inl ⟨by rfl, ?_⟩) (by assumption) ?_
            rotate_left 1
            · intro w hSw; (try dsimp only at hSw); go_simp; try (with_reducible rfl)
            try simp only [Act.put, List.setIfInBounds_toArray, List.set_cons_zero, List.set_cons_succ]
            refine wpAnyH_take (i := 14) (oi := ⟨some 28, _, _, _, _, _⟩) (v := ?_) rfl (by kernel_rfl) (by kernel_rfl) (by kernel_rfl) (fun _ _ _ h => h) (Or.inl ⟨by rfl, ?_⟩) (by assumption) ?_
            rotate_left 1
            · intro w hSw; (try dsimp only at hSw); go_simp; try (with_reducible rfl)
            try simp only [Act.put, List.setIfInBounds_toArray, List.set_cons_zero, List.set_cons_succ]
            refine wpAnyH_take (i := 15) (oi := ⟨some 29, _, _, _, _, _⟩) (v := ?_) rfl (by kernel_rfl) (by kernel_rfl) (by kernel_rfl) (fun _ _ _ h => h) (Or.inl ⟨by rfl, ?_⟩) (by assumption) ?_
            rotate_left 1
            · intro w hSw; (try dsimp only at hSw); go_simp; try (with_reducible rfl)
            try simp only [Act.put, List.setIfInBounds_toArray, List.set_cons_zero, List.set_cons_succ]
            refine wpAnyH_take (i := 16) (oi := ⟨some 30, _, _, _, _, _⟩) (v := ?_) rfl (by kernel_rfl) (by kernel_rfl) (by kernel_rfl) (fun _ _ _ h => h) (Or.inl ⟨by rfl, ?_⟩) (by assumption) ?_
            rotate_left 1
            · intro w hSw; (try dsimp only at hSw); go_simp; try (with_reducible rfl)
            try simp only [Act.put, List.setIfInBounds_toArray, List.set_cons_zero, List.set_cons_succ]
            refine wpAnyH_take (i := 17) (oi := ⟨some 31, _, _, _, _, _⟩) (v := ?_) rfl (by kernel_rfl) (by kernel_rfl) (by kernel_rfl) (fun _ _ _ h => h) (Or.inl ⟨by rfl, ?_⟩) (by assumption) ?_
            rotate_left 1
            · intro w hSw; (try dsimp only at hSw); go_simp; try (with_reducible rfl)
            try simp only [Act.put, List.setIfInBounds_toArray, List.set_cons_zero, List.set_cons_succ]
            refine wpAnyH_take (i := 18) (oi := ⟨some 32, _, _, _, _, _⟩) (v := ?_) rfl (by kernel_rfl) (by kernel_rfl) (by kernel_rfl) (fun _ _ _ h => h) (Or.inl ⟨by rfl, ?_⟩) (by assumption) ?_
            rotate_left 1
            · intro w hSw; (try dsimp only at hSw); go_simp; try (with_reducible rfl)
            try simp only [Act.put, List.setIfInBounds_toArray, List.set_cons_zero, List.set_cons_succ]
            refine wpAnyH_ready (rs := [19]) (by kernel_rfl) (by simp) ?_
            refine AllReadyH.cons (o := ⟨some 33, _, _, _, _, _⟩) rfl (fun K hK => ?_) AllReadyH.nil
            go_simp
            refine (cm _).mono ?_
            rintro e w3 ⟨rfl, hb⟩
            go_wp2_with fail
            refine hK.out _ _ ?_ (fun hHeld2 => ?_)
            · exact ⟨cell_later hb hHeld.1, cell_later hb hHeld.2.1, cell_later hb hHeld.2.2.1, cell_later hb hHeld.2.2.2.1, cell_later hb hHeld.2.2.2.2.1, cell_later hb hHeld.2.2.2.2.2.1, cell_later hb hHeld.2.2.2.2.2.2.1, cell_later hb hHeld.2.2.2.2.2.2.2.1, cell_later hb hHeld.2.2.2.2.2.2.2.2.1, cell_later hb hHeld.2.2.2.2.2.2.2.2.2.1, cell_later hb hHeld.2.2.2.2.2.2.2.2.2.2.1, cell_later hb hHeld.2.2.2.2.2.2.2.2.2.2.2.1, cell_later hb hHeld.2.2.2.2.2.2.2.2.2.2.2.2.1, cell_later hb hHeld.2.2.2.2.2.2.2.2.2.2.2.2.2.1, cell_later hb hHeld.2.2.2.2.2.2.2.2.2.2.2.2.2.2.1, hHeld.2.2.2.2.2.2.2.2.2.2.2.2.2.2.2.trans (hb.mono hHeld.2.2.2.2.2.2.2.2.2.2.2.2.2.2.2.size)⟩
            clear hK K hHeld hb
            have hHeld := hHeld2
            clear hHeld2
            try simp only [Act.put, List.setIfInBounds_toArray, List.set_cons_zero, List.set_cons_succ]
            refine wpAnyH_take (i := 20) (oi := ⟨some 34, _, _, _, _, _⟩) (v := ?_) rfl (by kernel_rfl) (by kernel_rfl) (by kernel_rfl) (fun _ _ _ h => h) (Or.inl ⟨by rfl, ?_⟩) (by assumption) ?_
            rotate_left 1
            · intro w hSw; (try dsimp only at hSw); go_simp; try (with_reducible rfl)
            try simp only [Act.put, List.setIfInBounds_toArray, List.set_cons_zero, List.set_cons_succ]
            refine wpAnyH_take (i := 21) (oi := ⟨some 35, _, _, _, _, _⟩) (v := ?_) rfl (by kernel_rfl) (by kernel_rfl) (by kernel_rfl) (fun _ _ _ h => h) (Or.inl ⟨by rfl, ?_⟩) (by assumption) ?_
            rotate_left 1
            · intro w hSw; (try dsimp only at hSw); go_simp; try (with_reducible rfl)
            try simp only [Act.put, List.setIfInBounds_toArray, List.set_cons_zero, List.set_cons_succ]
            refine wpAnyH_take (i := 22) (oi := ⟨some 36, _, _, _, _, _⟩) (v := ?_) rfl (by kernel_rfl) (by kernel_rfl) (by kernel_rfl) (fun _ _ _ h => h) (Or.inl ⟨by rfl, ?_⟩) (by assumption) ?_
            rotate_left 1
            · intro w hSw; (try dsimp only at hSw); go_simp; try (with_reducible rfl)
            try simp only [Act.put, List.setIfInBounds_toArray, List.set_cons_zero, List.set_cons_succ]
            refine wpAnyH_done (by kernel_rfl) ?_ _
            try simp only [Act.put, List.setIfInBounds_toArray, List.set_cons_zero, List.set_cons_succ]
            have D2 := Lib.hid (bstep D.out hHeld.2.2.2.2.2.2.2.2.2.2.2.2.2.2.2)
            have X2 := hXn.out _ hHeld.2.2.2.2.2.2.2.2.2.2.2.2.2.2.2
            clear hHeld D s0 s1 s2 s3 s4 hX c0 hg4 a0 a1 a2 a3 a4 b0 b1 b2 b3 b4
            go_wp2_with fail
            go_roundw
            case rel => exact ⟨k + 1, by omega, by go_num, R1, X2, D2⟩
            case measure => simp [intOf]; omega
    · obtain rfl : k = n := by omega
      go_wp2_with fail
      go_ret
      exact ⟨_, rfl, hS.out, D.out⟩
end Go.Proofs.YtbbnchodchgioaaDoor
