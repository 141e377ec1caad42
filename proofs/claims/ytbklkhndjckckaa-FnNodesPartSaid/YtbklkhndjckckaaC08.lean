/- Texts laid together. -/
import Derived.Test.YtbklkhndjckckaaC07
import Derived.Test.YtbklkhndjckckaaC06
import Derived.Test.YtbklkhndjckckaaC04
/- The program's soonestFree. -/
namespace Go.Proofs.Ytbklkhndjckckaa
open Go.RowKit
set_option linter.unusedVariables false

theorem free_iff {N : List Nd} {i : Nat} {Q : List Nat} {f r : Nat → Nat} {rd : Bool} {T : Pid → Prop} (hi : i < N.length) (hG : GM N i Q f r rd) (hT : Clo N T) :
    (rd = true ∧ ¬ (∀ x, Sc (EI N) (N.getD i nd0).id x → T x) ∧ ∀ x, Rp (EI N) (N.getD i nd0).id x → T x ∨ Sc (EI N) (N.getD i nd0).id x) ↔ FreeI N T (N.getD i nd0).id := by
  constructor
  · rintro ⟨h1, h2, h3⟩
    exact ⟨mem_idsN.2 ⟨i, hi, rfl⟩, fun hh => h2 fun x hx => hT _ x hh hx.1, hG.rdy.1 h1, h3⟩
  · rintro ⟨h1, h2, h3, h4⟩
    exact ⟨hG.rdy.2 h3, fun hh => h2 (hh _ (.refl _)), h4⟩

/-- A group whose first node is the one at a place. -/
def GrpH (w : World) (gb : Nat) (N : List Nd) (U : Us) (i : Nat) : Prop := ∃ mb cap Q f r rd, GrpAt w gb N U i mb cap Q f r rd ∧ Q.getD 0 0 = i
theorem GM.self {N : List Nd} {i : Nat} {Q : List Nat} {f r : Nat → Nat} {rd : Bool} (h : GM N i Q f r rd) : i ∈ Q := (h.mem i).2 (.refl i)
theorem GrpAt.pos {w : World} {gb : Nat} {N : List Nd} {U : Us} {i mb cap : Nat} {Q : List Nat} {f r : Nat → Nat} {rd : Bool} (h : GrpAt w gb N U i mb cap Q f r rd) : 0 < Q.length := List.length_pos_of_mem h.gm.self
theorem GrpH.of {w : World} {gb : Nat} {N : List Nd} {U : Us} {i : Nat} (hv : nodB N = true) (hi : i < N.length) (h : Grp w gb N U i) : ∃ j, j < N.length ∧ GrpH w gb N U j ∧ Sc (EI N) (N.getD j nd0).id (N.getD i nd0).id := by
  obtain ⟨mb, cap, Q, f, r, rd, h⟩ := h
  have hp := h.pos
  have hm : Q.getD 0 0 ∈ Q := by rw [List.getD_eq_getElem?_getD, List.getElem?_eq_getElem hp]; exact List.getElem_mem hp
  have hs := (h.gm.mem _).1 hm
  have hj : Q.getD 0 0 < N.length := rt_lt hs.1 hi
  exact ⟨_, hj, ⟨mb, cap, Q, f, r, rd, ⟨h.gb, h.row, h.typ, h.cap, h.gm.move hs hv hi hj⟩, rfl⟩, ((sc_iff hv hi hj).1 hs).symm⟩
/-- The groups, and their first nodes' places. -/
structure GH (w : World) (N : List Nd) (U : Us) (gs : List Nat) (H : Nat → Nat) : Prop where
  at_ : ∀ j, j < gs.length → H j < N.length ∧ GrpH w (gs.getD j 0) N U (H j)
  cov : ∀ i, i < N.length → ∃ j, j < gs.length ∧ Sc (EI N) (N.getD (H j) nd0).id (N.getD i nd0).id
theorem GrpH.keep {w w' : World} {gb : Nat} {N : List Nd} {U : Us} {i : Nat} (h : GrpH w gb N U i) (he : Exv w w') : GrpH w' gb N U i := by
  obtain ⟨mb, cap, Q, f, r, rd, h, e⟩ := h; exact ⟨mb, cap, Q, f, r, rd, h.keep he, e⟩
theorem GH.keep {w w' : World} {N : List Nd} {U : Us} {gs : List Nat} {H : Nat → Nat} (h : GH w N U gs H) (he : Exv w w') : GH w' N U gs H := ⟨fun j hj => ⟨(h.at_ j hj).1, (h.at_ j hj).2.keep he⟩, h.cov⟩
theorem GH.of {w : World} {N : List Nd} {U : Us} {gs : List Nat} (hv : nodB N = true) (h : AllG w N U gs) : ∃ H, GH w N U gs H := by
  have h1 : ∀ j, ∃ i, j < gs.length → i < N.length ∧ GrpH w (gs.getD j 0) N U i := fun j => by
    by_cases hj : j < gs.length
    · obtain ⟨i, hi, hG⟩ := h.2 _ (getD_memN hj)
      obtain ⟨k, hk, hK, _⟩ := GrpH.of hv hi hG
      exact ⟨k, fun _ => ⟨hk, hK⟩⟩
    · exact ⟨0, fun hh => absurd hh hj⟩
  refine ⟨fun j => Classical.choose (h1 j), fun j hj => Classical.choose_spec (h1 j) hj, fun i hi => ?_⟩
  obtain ⟨b, hb, hG⟩ := h.1 i hi
  obtain ⟨j, hj, rfl⟩ := List.mem_iff_getElem.1 hb
  refine ⟨j, hj, ?_⟩
  obtain ⟨_, mb, cap, Q, f, r, rd, hA, _⟩ := Classical.choose_spec (h1 j) hj
  obtain ⟨mb', cap', Q', f', r', rd', hB⟩ := hG
  have e : gs[j] = gs.getD j 0 := by rw [List.getD_eq_getElem?_getD, List.getElem?_eq_getElem hj]; rfl
  rw [e] at hB
  exact bits_same hB.gm.ids hA.gm.ids (gb_same hB.gb hA.gb) (.refl _)

/-- What soonestFree has found among the first k groups. -/
def SfR (N : List Nd) (T : Pid → Prop) (gs : List Nat) (H : Nat → Nat) (k : Nat) (sv : Value) : Prop :=
  (sv = .pointer none ∧ ∀ j, j < k → ¬ FreeI N T (N.getD (H j) nd0).id) ∨
  ∃ j, j < k ∧ sv = pv (gs.getD j 0) ∧ FreeI N T (N.getD (H j) nd0).id ∧ ∀ j', j' < k → FreeI N T (N.getD (H j') nd0).id → H j' = H j ∨ soonK N (H j) (H j')
theorem SfR.start (N : List Nd) (T : Pid → Prop) (gs : List Nat) (H : Nat → Nat) : SfR N T gs H 0 (.pointer none) := .inl ⟨rfl, fun j hj => absurd hj (Nat.not_lt_zero _)⟩
theorem SfR.no {N : List Nd} {T : Pid → Prop} {gs : List Nat} {H : Nat → Nat} {k : Nat} {sv : Value} (h : SfR N T gs H k sv) (hn : ¬ FreeI N T (N.getD (H k) nd0).id) : SfR N T gs H (k + 1) sv := by
  rcases h with ⟨h1, h2⟩ | ⟨j, h1, h2, h3, h4⟩
  · exact .inl ⟨h1, up_to h2 hn⟩
  · exact .inr ⟨j, by omega, h2, h3, up_to (P := fun j' => FreeI N T (N.getD (H j') nd0).id → H j' = H j ∨ soonK N (H j) (H j')) h4 fun hh => absurd hh hn⟩
theorem SfR.first {N : List Nd} {T : Pid → Prop} {gs : List Nat} {H : Nat → Nat} {k : Nat} (h : ∀ j, j < k → ¬ FreeI N T (N.getD (H j) nd0).id) (hn : FreeI N T (N.getD (H k) nd0).id) : SfR N T gs H (k + 1) (pv (gs.getD k 0)) :=
  .inr ⟨k, by omega, rfl, hn, fun j' hj' hf => by
    by_cases e : j' = k
    · exact .inl (by rw [e])
    · exact absurd hf (h j' (by omega))⟩
theorem SfR.take {N : List Nd} {T : Pid → Prop} {gs : List Nat} {H : Nat → Nat} {k j : Nat} (h : ∀ j', j' < k → FreeI N T (N.getD (H j') nd0).id → H j' = H j ∨ soonK N (H j) (H j')) (hn : FreeI N T (N.getD (H k) nd0).id) (hs : soonK N (H k) (H j)) : SfR N T gs H (k + 1) (pv (gs.getD k 0)) :=
  .inr ⟨k, by omega, rfl, hn, fun j' hj' hf => by
    by_cases e : j' = k
    · exact .inl (by rw [e])
    · rcases h j' (by omega) hf with e | e
      · rw [e]; exact .inr hs
      · exact .inr (hs.trans e)⟩
theorem SfR.keep {N : List Nd} (hv : nodB N = true) {T : Pid → Prop} {gs : List Nat} {H : Nat → Nat} {k j : Nat} (hj : j < k) (hf : FreeI N T (N.getD (H j) nd0).id) (h : ∀ j', j' < k → FreeI N T (N.getD (H j') nd0).id → H j' = H j ∨ soonK N (H j) (H j')) (hk : H k < N.length) (hjl : H j < N.length) (hs : ¬ soonK N (H k) (H j)) : SfR N T gs H (k + 1) (pv (gs.getD j 0)) :=
  .inr ⟨j, by omega, rfl, hf, up_to (P := fun j' => FreeI N T (N.getD (H j') nd0).id → H j' = H j ∨ soonK N (H j) (H j')) h fun _ => by
    by_cases e : H k = H j
    · exact .inl e
    · exact .inr (soonK.tri hv hk hjl e hs)⟩

/-- What is read of a group: the row of its nodes, and the first one. -/
theorem GrpH.read {w : World} {gb : Nat} {N : List Nd} {U : Us} {i : Nat} (h : GrpH w gb N U i) : ∃ mb n cap ua un uc, w.cell? ⟨gb, 0, none⟩ = some (.slice (some ⟨mb, 0, none⟩) n cap) ∧ w.cell? ⟨mb, 0, none⟩ = some (.int .i64 (N.getD i nd0).id.1) ∧ w.cell? ⟨mb, 1, none⟩ = some (.int .i64 (N.getD i nd0).id.2) ∧ w.cell? ⟨mb, 2, none⟩ = some (.int .i64 (N.getD i nd0).seq) ∧ w.cell? ⟨mb, 3, none⟩ = some (.slice ua un uc) ∧ 0 < n ∧ n ≤ cap ∧ gb < w.heap.size ∧ mb < w.heap.size := by
  obtain ⟨mb, cap, Q, f, r, rd, h, e⟩ := h
  obtain ⟨c0, c1, c2, c3⟩ := h.row.cell h.pos
  rw [e] at c0 c1 c2 c3
  simp only [Nat.zero_mul, Nat.zero_add] at c0 c1 c2 c3
  exact ⟨mb, Q.length, cap, _, _, _, h.gb.c0, c0, c1, c2, c3, h.pos, h.cap, h.gb.lt, h.row.lt⟩

/-- What soonestFree leaves. -/
def SfP (N : List Nd) (T : Pid → Prop) (gs : List Nat) (H : Nat → Nat) (w : World) (e : Ending) (w' : World) : Prop := ∃ v, e = .returned v ∧ SfR N T gs H gs.length v ∧ Below w.heap.size w w'

set_option maxRecDepth 100000 in
set_option maxHeartbeats 4000000 in
theorem sfree_any (B0 : Nat) (gv : Value) (gs : List Nat) (N : List Nd) (U : Us) (H : Nat → Nat) (R : Nat → Nat) (T : Pid → Prop) (w : World) (hv : nodB N = true) (hrow : w.ownsRow B0 57 1 gv gs.length (gs.map pv)) (hgl : gs.length ≤ 12) (hH : GH w N U gs H) (hR : Bits R T) (hT : Clo N T) :
    Calls Try.prog 33 #[gv, setV R] w (SfP N T gs H w) := by
  have hv := Lib.hid hv
  have hT := Lib.hid hT
  have hR := Lib.hid hR
  have hH := Lib.hid hH
  have hrow := Lib.hid hrow
  obtain ⟨ga, gc, rfl⟩ := row_shape hrow.out
  have frg := fun (gb i mb cap : Nat) (Q : List Nat) (f r : Nat → Nat) (rd : Bool) (hi : i < N.length) (hG : GrpAt w gb N U i mb cap Q f r rd) (q : Bool) (hq : q = true ↔ FreeI N T (N.getD i nd0).id) (W : World) (hb : Below w.heap.size w W) =>
    (show Calls Try.prog 57 #[.pointer (some ⟨gb, 0, none⟩), setV R] W fun e w' => e = .returned (.bool q) ∧ Below W.heap.size W w' from
      (free_any gb _ f r R rd _ _ T W (hG.keep (Exv.of hb)).gb hG.gm.ids hG.gm.rch hR.out).mono (by
        rintro e w' ⟨⟨b, rfl, hbb⟩, B⟩
        exact ⟨ret_bool (Bool.eq_iff_iff.2 (hbb.trans ((free_iff hi hG.gm hT.out).trans hq.symm))), B⟩))
  have frg := Lib.hid frg
  have hA := heap_alloc_new w (.cells #[.int .u64 (R 0), .int .u64 (R 1), .int .u64 (R 2), .int .u64 (R 3), .int .u64 (R 4)] 56)
  have D0 := (Below.refl w.heap.size w).alloc (Nat.le_refl _) (.cells #[.int .u64 (R 0), .int .u64 (R 1), .int .u64 (R 2), .int .u64 (R 3), .int .u64 (R 4)] 56)
  have hA : Hid (Set5 (w.alloc (.cells #[.int .u64 (R 0), .int .u64 (R 1), .int .u64 (R 2), .int .u64 (R 3), .int .u64 (R 4)] 56)) w.heap.size R) := Lib.hid hA
  have D0 := Lib.hid D0
  obtain ⟨n, hn⟩ : ∃ n, Hid (gs.length = n) := ⟨_, Lib.hid rfl⟩
  rw [hn.out] at hgl ⊢
  unfold SfP
  rw [hn.out]
  unfold setV
  go_enter Try.func33, Try.ntmps33
  go_wp2_with fail
  go_loopw [5, 10] (fun sv i wr => ∃ k : Nat, k ≤ n ∧ i = .int .i64 k ∧ Hid (SfR N T gs H k sv) ∧ Hid (Set5 wr w.heap.size R) ∧ Hid (Below w.heap.size w wr)) (fun _ i _ => n - (intOf i).toNat)
  case atStart => exact ⟨0, Nat.zero_le _, rfl, Lib.hid (SfR.start _ _ _ _), hA, D0⟩
  case round =>
    clear hA D0
    rename_i sv i wr
    obtain ⟨k, hk, rfl, hS, hX, D⟩ := hrel
    by_cases hlt : k < n
    · have hkl : k < gs.length := by rw [hn.out]; exact hlt
      obtain ⟨g4, c4, hge⟩ := own_some hrow.out (by omega)
      have c0 : w.cell? ⟨g4, k, none⟩ = some (pv (gs.getD k 0)) := by
        have := hrow.out.cells (g := g4) (by rw [hge]; rfl) k (pv (gs.getD k 0)) (by rw [List.getElem?_map, List.getD_eq_getElem?_getD, List.getElem?_eq_getElem hkl]; rfl)
        rw [Addr.add_lit, Nat.zero_add] at this; exact this
      injection hge with hge _ hge3
      subst hge
      subst hge3
      have c0 := (D.out.cell (p := ⟨g4, k, none⟩) (World.block_lt_of_cell? _ _ c0)).trans c0
      have hg4 := World.block_lt_of_cell? _ _ c0
      dsimp only at hg4
      obtain ⟨hHl, hGH⟩ := hH.out.at_ k hkl
      have hGr := (hGH.keep (Exv.of D.out)).read
      obtain ⟨gb, hb⟩ : ∃ b, Hid (gs.getD k 0 = b) := ⟨_, Lib.hid rfl⟩
      rw [hb.out] at c0 hGH hGr
      unfold pv at c0
      obtain ⟨mb0, cap0, Q, f, r0, rd, hGA, _⟩ := hGH
      obtain ⟨s0, s1, s2, s3, s4⟩ := hX.out.five
      have sl := hX.out.lt
      obtain ⟨q, hq⟩ : ∃ q : Bool, Hid (q = true ↔ FreeI N T (N.getD (H k) nd0).id) := by
        by_cases h : FreeI N T (N.getD (H k) nd0).id
        · exact ⟨true, Lib.hid ⟨fun _ => h, fun _ => rfl⟩⟩
        · exact ⟨false, Lib.hid ⟨fun x => (nomatch x), fun x => absurd x h⟩⟩
      have fr := frg.out gb _ mb0 cap0 Q f r0 rd hHl hGA q hq.out
      unfold setV at fr
      have hXn : ∀ W, Below wr.heap.size wr W → Hid (Set5 W w.heap.size R) := fun W hW => Lib.hid (hX.out.up hW hX.out.lt)
      have hXn := Lib.hid hXn
      have hHl := Lib.hid hHl
      clear hGA
      cases q with
      | false =>
        have R1 := Lib.hid (hS.out.no (fun h => nomatch (hq.out.2 h)))
        clear hGr
        go_upto_region 5 with fail
        refine wp_region_held_drew (S := fun w' => w'.cell? ⟨w.heap.size, 0, none⟩ = some (.int .u64 (R 0)) ∧ w'.cell? ⟨w.heap.size, 1, none⟩ = some (.int .u64 (R 1)) ∧ w'.cell? ⟨w.heap.size, 2, none⟩ = some (.int .u64 (R 2)) ∧ w'.cell? ⟨w.heap.size, 3, none⟩ = some (.int .u64 (R 3)) ∧ w'.cell? ⟨w.heap.size, 4, none⟩ = some (.int .u64 (R 4)) ∧ Below wr.heap.size wr w') (by kernel_rfl) ⟨s0, s1, s2, s3, s4, Below.drew (Below.refl _ _)⟩ (fun hHeld => ?_)
        refine wpAnyH_take (i := 0) (oi := ⟨some 14, _, _, _, _, _⟩) (v := ?_) rfl (by kernel_rfl) (by kernel_rfl) (by kernel_rfl) (fun _ _ _ h => h) (Or.inl ⟨by rfl, ?_⟩) (by assumption) ?_
        rotate_left 1
        · intro w hSw; (try dsimp only at hSw); go_simp; try (with_reducible rfl)
        try simp only [Act.put, List.setIfInBounds_toArray, List.set_cons_zero, List.set_cons_succ]
        refine wpAnyH_take (i := 1) (oi := ⟨some 15, _, _, _, _, _⟩) (v := ?_) rfl (by kernel_rfl) (by kernel_rfl) (by kernel_rfl) (fun _ _ _ h => h) (Or.inl ⟨by rfl, ?_⟩) (by assumption) ?_
        rotate_left 1
        · intro w hSw; (try dsimp only at hSw); go_simp; try (with_reducible rfl)
        try simp only [Act.put, List.setIfInBounds_toArray, List.set_cons_zero, List.set_cons_succ]
        refine wpAnyH_ready (rs := [2]) (by kernel_rfl) (by simp) ?_
        refine AllReadyH.cons (o := ⟨some 16, _, _, _, _, _⟩) rfl (fun K hK => ?_) AllReadyH.nil
        go_simp
        refine (fr _ (bstep D.out hHeld.2.2.2.2.2)).mono ?_
        rintro e w2 ⟨rfl, hb⟩
        go_wp2_with fail
        refine hK.out _ _ ?_ (fun hHeld2 => ?_)
        · exact ⟨cell_later hb hHeld.1, cell_later hb hHeld.2.1, cell_later hb hHeld.2.2.1, cell_later hb hHeld.2.2.2.1, cell_later hb hHeld.2.2.2.2.1, hHeld.2.2.2.2.2.trans (hb.mono hHeld.2.2.2.2.2.size)⟩
        clear hK K hHeld hb
        have hHeld := hHeld2
        clear hHeld2
        try simp only [Act.put, List.setIfInBounds_toArray, List.set_cons_zero, List.set_cons_succ]
        refine wpAnyH_take (i := 3) (oi := ⟨some 17, _, _, _, _, _⟩) (v := ?_) rfl (by kernel_rfl) (by kernel_rfl) (by kernel_rfl) (fun _ _ _ h => h) (Or.inl ⟨by rfl, ?_⟩) (by assumption) ?_
        rotate_left 1
        · intro w hSw; (try dsimp only at hSw); go_simp; try (with_reducible rfl)
        try simp only [Act.put, List.setIfInBounds_toArray, List.set_cons_zero, List.set_cons_succ]
        refine wpAnyH_take (i := 4) (oi := ⟨some 18, _, _, _, _, _⟩) (v := undef) rfl (by kernel_rfl) (by kernel_rfl) (by kernel_rfl) (fun _ _ _ h => h) (Or.inr ⟨by rfl, rfl⟩) (by assumption) ?_
        try simp only [Act.put, List.setIfInBounds_toArray, List.set_cons_zero, List.set_cons_succ]
        refine wpAnyH_take (i := 5) (oi := ⟨some 19, _, _, _, _, _⟩) (v := undef) rfl (by kernel_rfl) (by kernel_rfl) (by kernel_rfl) (fun _ _ _ h => h) (Or.inr ⟨by rfl, rfl⟩) (by assumption) ?_
        try simp only [Act.put, List.setIfInBounds_toArray, List.set_cons_zero, List.set_cons_succ]
        refine wpAnyH_take (i := 6) (oi := ⟨some 20, _, _, _, _, _⟩) (v := undef) rfl (by kernel_rfl) (by kernel_rfl) (by kernel_rfl) (fun _ _ _ h => h) (Or.inr ⟨by rfl, rfl⟩) (by assumption) ?_
        try simp only [Act.put, List.setIfInBounds_toArray, List.set_cons_zero, List.set_cons_succ]
        refine wpAnyH_take (i := 7) (oi := ⟨some 21, _, _, _, _, _⟩) (v := undef) rfl (by kernel_rfl) (by kernel_rfl) (by kernel_rfl) (fun _ _ _ h => h) (Or.inr ⟨by rfl, rfl⟩) (by assumption) ?_
        try simp only [Act.put, List.setIfInBounds_toArray, List.set_cons_zero, List.set_cons_succ]
        refine wpAnyH_take (i := 8) (oi := ⟨some 22, _, _, _, _, _⟩) (v := undef) rfl (by kernel_rfl) (by kernel_rfl) (by kernel_rfl) (fun _ _ _ h => h) (Or.inr ⟨by rfl, rfl⟩) (by assumption) ?_
        try simp only [Act.put, List.setIfInBounds_toArray, List.set_cons_zero, List.set_cons_succ]
        refine wpAnyH_take (i := 9) (oi := ⟨some 23, _, _, _, _, _⟩) (v := undef) rfl (by kernel_rfl) (by kernel_rfl) (by kernel_rfl) (fun _ _ _ h => h) (Or.inr ⟨by rfl, rfl⟩) (by assumption) ?_
        try simp only [Act.put, List.setIfInBounds_toArray, List.set_cons_zero, List.set_cons_succ]
        refine wpAnyH_take (i := 10) (oi := ⟨some 24, _, _, _, _, _⟩) (v := undef) rfl (by kernel_rfl) (by kernel_rfl) (by kernel_rfl) (fun _ _ _ h => h) (Or.inr ⟨by rfl, rfl⟩) (by assumption) ?_
        try simp only [Act.put, List.setIfInBounds_toArray, List.set_cons_zero, List.set_cons_succ]
        refine wpAnyH_take (i := 11) (oi := ⟨some 25, _, _, _, _, _⟩) (v := undef) rfl (by kernel_rfl) (by kernel_rfl) (by kernel_rfl) (fun _ _ _ h => h) (Or.inr ⟨by rfl, rfl⟩) (by assumption) ?_
        try simp only [Act.put, List.setIfInBounds_toArray, List.set_cons_zero, List.set_cons_succ]
        refine wpAnyH_take (i := 12) (oi := ⟨some 26, _, _, _, _, _⟩) (v := undef) rfl (by kernel_rfl) (by kernel_rfl) (by kernel_rfl) (fun _ _ _ h => h) (Or.inr ⟨by rfl, rfl⟩) (by assumption) ?_
        try simp only [Act.put, List.setIfInBounds_toArray, List.set_cons_zero, List.set_cons_succ]
        refine wpAnyH_take (i := 13) (oi := ⟨some 27, _, _, _, _, _⟩) (v := undef) rfl (by kernel_rfl) (by kernel_rfl) (by kernel_rfl) (fun _ _ _ h => h) (Or.inr ⟨by rfl, rfl⟩) (by assumption) ?_
        try simp only [Act.put, List.setIfInBounds_toArray, List.set_cons_zero, List.set_cons_succ]
        refine wpAnyH_take (i := 14) (oi := ⟨some 28, _, _, _, _, _⟩) (v := undef) rfl (by kernel_rfl) (by kernel_rfl) (by kernel_rfl) (fun _ _ _ h => h) (Or.inr ⟨by rfl, rfl⟩) (by assumption) ?_
        try simp only [Act.put, List.setIfInBounds_toArray, List.set_cons_zero, List.set_cons_succ]
        refine wpAnyH_take (i := 15) (oi := ⟨some 29, _, _, _, _, _⟩) (v := undef) rfl (by kernel_rfl) (by kernel_rfl) (by kernel_rfl) (fun _ _ _ h => h) (Or.inr ⟨by rfl, rfl⟩) (by assumption) ?_
        try simp only [Act.put, List.setIfInBounds_toArray, List.set_cons_zero, List.set_cons_succ]
        refine wpAnyH_take (i := 16) (oi := ⟨some 30, _, _, _, _, _⟩) (v := undef) rfl (by kernel_rfl) (by kernel_rfl) (by kernel_rfl) (fun _ _ _ h => h) (Or.inr ⟨by rfl, rfl⟩) (by assumption) ?_
        try simp only [Act.put, List.setIfInBounds_toArray, List.set_cons_zero, List.set_cons_succ]
        refine wpAnyH_take (i := 17) (oi := ⟨some 31, _, _, _, _, _⟩) (v := undef) rfl (by kernel_rfl) (by kernel_rfl) (by kernel_rfl) (fun _ _ _ h => h) (Or.inr ⟨by rfl, rfl⟩) (by assumption) ?_
        try simp only [Act.put, List.setIfInBounds_toArray, List.set_cons_zero, List.set_cons_succ]
        refine wpAnyH_take (i := 18) (oi := ⟨some 32, _, _, _, _, _⟩) (v := undef) rfl (by kernel_rfl) (by kernel_rfl) (by kernel_rfl) (fun _ _ _ h => h) (Or.inr ⟨by rfl, rfl⟩) (by assumption) ?_
        try simp only [Act.put, List.setIfInBounds_toArray, List.set_cons_zero, List.set_cons_succ]
        refine wpAnyH_take (i := 19) (oi := ⟨some 33, _, _, _, _, _⟩) (v := undef) rfl (by kernel_rfl) (by kernel_rfl) (by kernel_rfl) (fun _ _ _ h => h) (Or.inr ⟨by rfl, rfl⟩) (by assumption) ?_
        try simp only [Act.put, List.setIfInBounds_toArray, List.set_cons_zero, List.set_cons_succ]
        refine wpAnyH_take (i := 20) (oi := ⟨some 34, _, _, _, _, _⟩) (v := undef) rfl (by kernel_rfl) (by kernel_rfl) (by kernel_rfl) (fun _ _ _ h => h) (Or.inr ⟨by rfl, rfl⟩) (by assumption) ?_
        try simp only [Act.put, List.setIfInBounds_toArray, List.set_cons_zero, List.set_cons_succ]
        refine wpAnyH_take (i := 21) (oi := ⟨some 35, _, _, _, _, _⟩) (v := undef) rfl (by kernel_rfl) (by kernel_rfl) (by kernel_rfl) (fun _ _ _ h => h) (Or.inr ⟨by rfl, rfl⟩) (by assumption) ?_
        try simp only [Act.put, List.setIfInBounds_toArray, List.set_cons_zero, List.set_cons_succ]
        refine wpAnyH_take (i := 22) (oi := ⟨some 36, _, _, _, _, _⟩) (v := ?_) rfl (by kernel_rfl) (by kernel_rfl) (by kernel_rfl) (fun _ _ _ h => h) (Or.inl ⟨by rfl, ?_⟩) (by assumption) ?_
        rotate_left 1
        · intro w hSw; (try dsimp only at hSw); go_simp; try (with_reducible rfl)
        try simp only [Act.put, List.setIfInBounds_toArray, List.set_cons_zero, List.set_cons_succ]
        refine wpAnyH_done (by kernel_rfl) ?_ _
        try simp only [Act.put, List.setIfInBounds_toArray, List.set_cons_zero, List.set_cons_succ]
        have D2 := Lib.hid (bstep D.out hHeld.2.2.2.2.2)
        have X2 := hXn.out _ hHeld.2.2.2.2.2
        clear hHeld D s0 s1 s2 s3 s4 hX c0 hg4
        go_wp2_with fail
        go_roundw
        case rel => exact ⟨k + 1, by omega, by go_num, R1, X2, D2⟩
        case measure => simp [intOf]; omega
      | true =>
        obtain ⟨mb, n1, cap1, ua, un, uc, a0, a1, a2, a3, a4, hn1, hcap1, hgbl, hmbl⟩ := hGr
        obtain ⟨nd, hnd⟩ : ∃ x, Hid (N.getD (H k) nd0 = x) := ⟨_, Lib.hid rfl⟩
        rw [hnd.out] at a1 a2 a3
        obtain ⟨⟨p, r⟩, s, _⟩ := nd
        dsimp only at a1 a2 a3
        have hfk := Lib.hid (hq.out.1 rfl)
        rcases hS.out with ⟨rfl, hno⟩ | ⟨j, hjk, rfl, hjf, hjm⟩
        · have R1 : Hid (SfR N T gs H (k + 1) (.pointer (some ⟨gb, 0, none⟩))) := Lib.hid (by
            have := SfR.first (gs := gs) hno hfk.out
            rw [hb.out] at this; exact this)
          have hno := Lib.hid hno
          have hS := Lib.hid hS
          go_upto_region 5 with fail
          refine wp_region_held_drew (S := fun w' => w'.cell? ⟨w.heap.size, 0, none⟩ = some (.int .u64 (R 0)) ∧ w'.cell? ⟨w.heap.size, 1, none⟩ = some (.int .u64 (R 1)) ∧ w'.cell? ⟨w.heap.size, 2, none⟩ = some (.int .u64 (R 2)) ∧ w'.cell? ⟨w.heap.size, 3, none⟩ = some (.int .u64 (R 3)) ∧ w'.cell? ⟨w.heap.size, 4, none⟩ = some (.int .u64 (R 4)) ∧ w'.cell? ⟨gb, 0, none⟩ = some (.slice (some ⟨mb, 0, none⟩) n1 cap1) ∧ w'.cell? ⟨mb, 0, none⟩ = some (.int .i64 p) ∧ w'.cell? ⟨mb, 1, none⟩ = some (.int .i64 r) ∧ w'.cell? ⟨mb, 2, none⟩ = some (.int .i64 s) ∧ w'.cell? ⟨mb, 3, none⟩ = some (.slice ua un uc) ∧ Below wr.heap.size wr w') (by kernel_rfl) ⟨s0, s1, s2, s3, s4, a0, a1, a2, a3, a4, Below.drew (Below.refl _ _)⟩ (fun hHeld => ?_)
          refine wpAnyH_take (i := 0) (oi := ⟨some 14, _, _, _, _, _⟩) (v := ?_) rfl (by kernel_rfl) (by kernel_rfl) (by kernel_rfl) (fun _ _ _ h => h) (Or.inl ⟨by rfl, ?_⟩) (by assumption) ?_
          rotate_left 1
          · intro w hSw; (try dsimp only at hSw); go_simp; try (with_reducible rfl)
          try simp only [Act.put, List.setIfInBounds_toArray, List.set_cons_zero, List.set_cons_succ]
          refine wpAnyH_take (i := 1) (oi := ⟨some 15, _, _, _, _, _⟩) (v := ?_) rfl (by kernel_rfl) (by kernel_rfl) (by kernel_rfl) (fun _ _ _ h => h) (Or.inl ⟨by rfl, ?_⟩) (by assumption) ?_
          rotate_left 1
          · intro w hSw; (try dsimp only at hSw); go_simp; try (with_reducible rfl)
          try simp only [Act.put, List.setIfInBounds_toArray, List.set_cons_zero, List.set_cons_succ]
          refine wpAnyH_ready (rs := [2]) (by kernel_rfl) (by simp) ?_
          refine AllReadyH.cons (o := ⟨some 16, _, _, _, _, _⟩) rfl (fun K hK => ?_) AllReadyH.nil
          go_simp
          refine (fr _ (bstep D.out hHeld.2.2.2.2.2.2.2.2.2.2)).mono ?_
          rintro e w2 ⟨rfl, hb⟩
          go_wp2_with fail
          refine hK.out _ _ ?_ (fun hHeld2 => ?_)
          · exact ⟨cell_later hb hHeld.1, cell_later hb hHeld.2.1, cell_later hb hHeld.2.2.1, cell_later hb hHeld.2.2.2.1, cell_later hb hHeld.2.2.2.2.1, cell_later hb hHeld.2.2.2.2.2.1, cell_later hb hHeld.2.2.2.2.2.2.1, cell_later hb hHeld.2.2.2.2.2.2.2.1, cell_later hb hHeld.2.2.2.2.2.2.2.2.1, cell_later hb hHeld.2.2.2.2.2.2.2.2.2.1, hHeld.2.2.2.2.2.2.2.2.2.2.trans (hb.mono hHeld.2.2.2.2.2.2.2.2.2.2.size)⟩
          clear hK K hHeld hb
          have hHeld := hHeld2
          clear hHeld2
          try simp only [Act.put, List.setIfInBounds_toArray, List.set_cons_zero, List.set_cons_succ]
          refine wpAnyH_take (i := 3) (oi := ⟨some 17, _, _, _, _, _⟩) (v := ?_) rfl (by kernel_rfl) (by kernel_rfl) (by kernel_rfl) (fun _ _ _ h => h) (Or.inl ⟨by rfl, ?_⟩) (by assumption) ?_
          rotate_left 1
          · intro w hSw; (try dsimp only at hSw); go_simp; try (with_reducible rfl)
          try simp only [Act.put, List.setIfInBounds_toArray, List.set_cons_zero, List.set_cons_succ]
          refine wpAnyH_take (i := 4) (oi := ⟨some 18, _, _, _, _, _⟩) (v := ?_) rfl (by kernel_rfl) (by kernel_rfl) (by kernel_rfl) (fun _ _ _ h => h) (Or.inl ⟨by rfl, ?_⟩) (by assumption) ?_
          rotate_left 1
          · intro w hSw; (try dsimp only at hSw); go_simp; try (with_reducible rfl)
          try simp only [Act.put, List.setIfInBounds_toArray, List.set_cons_zero, List.set_cons_succ]
          refine wpAnyH_take (i := 5) (oi := ⟨some 19, _, _, _, _, _⟩) (v := ?_) rfl (by kernel_rfl) (by kernel_rfl) (by kernel_rfl) (fun _ _ _ h => h) (Or.inl ⟨by rfl, ?_⟩) (by assumption) ?_
          rotate_left 1
          · intro w hSw; (try dsimp only at hSw); go_simp; try (with_reducible rfl)
          try simp only [Act.put, List.setIfInBounds_toArray, List.set_cons_zero, List.set_cons_succ]
          refine wpAnyH_take (i := 6) (oi := ⟨some 20, _, _, _, _, _⟩) (v := ?_) rfl (by kernel_rfl) (by kernel_rfl) (by kernel_rfl) (fun _ _ _ h => h) (Or.inl ⟨by rfl, ?_⟩) (by assumption) ?_
          rotate_left 1
          · intro w hSw; (try dsimp only at hSw); go_simp; try (with_reducible rfl)
          try simp only [Act.put, List.setIfInBounds_toArray, List.set_cons_zero, List.set_cons_succ]
          refine wpAnyH_take (i := 7) (oi := ⟨some 21, _, _, _, _, _⟩) (v := undef) rfl (by kernel_rfl) (by kernel_rfl) (by kernel_rfl) (fun _ _ _ h => h) (Or.inr ⟨by rfl, rfl⟩) (by assumption) ?_
          try simp only [Act.put, List.setIfInBounds_toArray, List.set_cons_zero, List.set_cons_succ]
          refine wpAnyH_take (i := 8) (oi := ⟨some 22, _, _, _, _, _⟩) (v := undef) rfl (by kernel_rfl) (by kernel_rfl) (by kernel_rfl) (fun _ _ _ h => h) (Or.inr ⟨by rfl, rfl⟩) (by assumption) ?_
          try simp only [Act.put, List.setIfInBounds_toArray, List.set_cons_zero, List.set_cons_succ]
          refine wpAnyH_take (i := 9) (oi := ⟨some 23, _, _, _, _, _⟩) (v := undef) rfl (by kernel_rfl) (by kernel_rfl) (by kernel_rfl) (fun _ _ _ h => h) (Or.inr ⟨by rfl, rfl⟩) (by assumption) ?_
          try simp only [Act.put, List.setIfInBounds_toArray, List.set_cons_zero, List.set_cons_succ]
          refine wpAnyH_take (i := 10) (oi := ⟨some 24, _, _, _, _, _⟩) (v := undef) rfl (by kernel_rfl) (by kernel_rfl) (by kernel_rfl) (fun _ _ _ h => h) (Or.inr ⟨by rfl, rfl⟩) (by assumption) ?_
          try simp only [Act.put, List.setIfInBounds_toArray, List.set_cons_zero, List.set_cons_succ]
          refine wpAnyH_take (i := 11) (oi := ⟨some 25, _, _, _, _, _⟩) (v := undef) rfl (by kernel_rfl) (by kernel_rfl) (by kernel_rfl) (fun _ _ _ h => h) (Or.inr ⟨by rfl, rfl⟩) (by assumption) ?_
          try simp only [Act.put, List.setIfInBounds_toArray, List.set_cons_zero, List.set_cons_succ]
          refine wpAnyH_take (i := 12) (oi := ⟨some 26, _, _, _, _, _⟩) (v := undef) rfl (by kernel_rfl) (by kernel_rfl) (by kernel_rfl) (fun _ _ _ h => h) (Or.inr ⟨by rfl, rfl⟩) (by assumption) ?_
          try simp only [Act.put, List.setIfInBounds_toArray, List.set_cons_zero, List.set_cons_succ]
          refine wpAnyH_take (i := 13) (oi := ⟨some 27, _, _, _, _, _⟩) (v := undef) rfl (by kernel_rfl) (by kernel_rfl) (by kernel_rfl) (fun _ _ _ h => h) (Or.inr ⟨by rfl, rfl⟩) (by assumption) ?_
          try simp only [Act.put, List.setIfInBounds_toArray, List.set_cons_zero, List.set_cons_succ]
          refine wpAnyH_take (i := 14) (oi := ⟨some 28, _, _, _, _, _⟩) (v := undef) rfl (by kernel_rfl) (by kernel_rfl) (by kernel_rfl) (fun _ _ _ h => h) (Or.inr ⟨by rfl, rfl⟩) (by assumption) ?_
          try simp only [Act.put, List.setIfInBounds_toArray, List.set_cons_zero, List.set_cons_succ]
          refine wpAnyH_take (i := 15) (oi := ⟨some 29, _, _, _, _, _⟩) (v := undef) rfl (by kernel_rfl) (by kernel_rfl) (by kernel_rfl) (fun _ _ _ h => h) (Or.inr ⟨by rfl, rfl⟩) (by assumption) ?_
          try simp only [Act.put, List.setIfInBounds_toArray, List.set_cons_zero, List.set_cons_succ]
          refine wpAnyH_take (i := 16) (oi := ⟨some 30, _, _, _, _, _⟩) (v := undef) rfl (by kernel_rfl) (by kernel_rfl) (by kernel_rfl) (fun _ _ _ h => h) (Or.inr ⟨by rfl, rfl⟩) (by assumption) ?_
          try simp only [Act.put, List.setIfInBounds_toArray, List.set_cons_zero, List.set_cons_succ]
          refine wpAnyH_take (i := 17) (oi := ⟨some 31, _, _, _, _, _⟩) (v := undef) rfl (by kernel_rfl) (by kernel_rfl) (by kernel_rfl) (fun _ _ _ h => h) (Or.inr ⟨by rfl, rfl⟩) (by assumption) ?_
          try simp only [Act.put, List.setIfInBounds_toArray, List.set_cons_zero, List.set_cons_succ]
          refine wpAnyH_take (i := 18) (oi := ⟨some 32, _, _, _, _, _⟩) (v := undef) rfl (by kernel_rfl) (by kernel_rfl) (by kernel_rfl) (fun _ _ _ h => h) (Or.inr ⟨by rfl, rfl⟩) (by assumption) ?_
          try simp only [Act.put, List.setIfInBounds_toArray, List.set_cons_zero, List.set_cons_succ]
          refine wpAnyH_take (i := 19) (oi := ⟨some 33, _, _, _, _, _⟩) (v := undef) rfl (by kernel_rfl) (by kernel_rfl) (by kernel_rfl) (fun _ _ _ h => h) (Or.inr ⟨by rfl, rfl⟩) (by assumption) ?_
          try simp only [Act.put, List.setIfInBounds_toArray, List.set_cons_zero, List.set_cons_succ]
          refine wpAnyH_take (i := 20) (oi := ⟨some 34, _, _, _, _, _⟩) (v := undef) rfl (by kernel_rfl) (by kernel_rfl) (by kernel_rfl) (fun _ _ _ h => h) (Or.inr ⟨by rfl, rfl⟩) (by assumption) ?_
          try simp only [Act.put, List.setIfInBounds_toArray, List.set_cons_zero, List.set_cons_succ]
          refine wpAnyH_take (i := 21) (oi := ⟨some 35, _, _, _, _, _⟩) (v := ?_) rfl (by kernel_rfl) (by kernel_rfl) (by kernel_rfl) (fun _ _ _ h => h) (Or.inl ⟨by rfl, ?_⟩) (by assumption) ?_
          rotate_left 1
          · intro w hSw; (try dsimp only at hSw); go_simp; try (with_reducible rfl)
          try simp only [Act.put, List.setIfInBounds_toArray, List.set_cons_zero, List.set_cons_succ]
          refine wpAnyH_take (i := 22) (oi := ⟨some 36, _, _, _, _, _⟩) (v := ?_) rfl (by kernel_rfl) (by kernel_rfl) (by kernel_rfl) (fun _ _ _ h => h) (Or.inl ⟨by rfl, ?_⟩) (by assumption) ?_
          rotate_left 1
          · intro w hSw; (try dsimp only at hSw); go_simp; try (with_reducible rfl)
          try simp only [Act.put, List.setIfInBounds_toArray, List.set_cons_zero, List.set_cons_succ]
          refine wpAnyH_done (by kernel_rfl) ?_ _
          try simp only [Act.put, List.setIfInBounds_toArray, List.set_cons_zero, List.set_cons_succ]
          have D2 := Lib.hid (bstep D.out hHeld.2.2.2.2.2.2.2.2.2.2)
          have X2 := hXn.out _ hHeld.2.2.2.2.2.2.2.2.2.2
          clear hHeld D s0 s1 s2 s3 s4 hX c0 hg4 a0 a1 a2 a3 a4
          go_wp2_with fail
          go_roundw
          case rel => exact ⟨k + 1, by omega, by go_num, R1, X2, D2⟩
          case measure => simp [intOf]; omega
        · obtain ⟨hHj, hGj⟩ := hH.out.at_ j (by omega)
          obtain ⟨mb', n2, cap2, ua', un', uc', b0, b1, b2, b3, b4, hn2, hcap2, hsbl, hmbl'⟩ := (hGj.keep (Exv.of D.out)).read
          have hcmp : (N.getD (H k) nd0).seq < (N.getD (H j) nd0).seq ∨ (N.getD (H k) nd0).seq = (N.getD (H j) nd0).seq ∧ ltB (N.getD (H k) nd0).id.1 (N.getD (H k) nd0).id.2 (N.getD (H j) nd0).id.1 (N.getD (H j) nd0).id.2 = true ↔ soonK N (H k) (H j) := Iff.rfl
          obtain ⟨sb, hsb⟩ : ∃ b, Hid (gs.getD j 0 = b) := ⟨_, Lib.hid rfl⟩
          obtain ⟨nd', hnd'⟩ : ∃ x, Hid (N.getD (H j) nd0 = x) := ⟨_, Lib.hid rfl⟩
          rw [hnd.out, hnd'.out] at hcmp
          rw [hnd'.out] at b1 b2 b3
          rw [hsb.out] at b0 hsbl
          unfold pv
          rw [hsb.out]
          obtain ⟨⟨p', r'⟩, s', _⟩ := nd'
          dsimp only at b1 b2 b3 hcmp
          have cm := fun W => cmpD_any p r s ua un uc p' r' s' ua' un' uc' W
          have hz := (cmpD_neg (s := s) (s' := s') (p := p) (r := r) (p' := p') (r' := r')).trans hcmp
          obtain ⟨z, hze⟩ : ∃ z, cmpD s s' p r p' r' = z := ⟨_, rfl⟩
          rw [hze] at cm hz
          have hz := Lib.hid hz
          have hjm := Lib.hid hjm
          have hjf := Lib.hid hjf
          have hS := Lib.hid hS
          clear hze hcmp hGj
          by_cases hz0 : z < 0
          · have R1 : Hid (SfR N T gs H (k + 1) (.pointer (some ⟨gb, 0, none⟩))) := Lib.hid (by
              have := SfR.take (gs := gs) hjm.out hfk.out (hz.out.1 hz0)
              rw [hb.out] at this; exact this)
            go_upto_region 5 with fail
            refine wp_region_held_drew (S := fun w' => w'.cell? ⟨w.heap.size, 0, none⟩ = some (.int .u64 (R 0)) ∧ w'.cell? ⟨w.heap.size, 1, none⟩ = some (.int .u64 (R 1)) ∧ w'.cell? ⟨w.heap.size, 2, none⟩ = some (.int .u64 (R 2)) ∧ w'.cell? ⟨w.heap.size, 3, none⟩ = some (.int .u64 (R 3)) ∧ w'.cell? ⟨w.heap.size, 4, none⟩ = some (.int .u64 (R 4)) ∧ w'.cell? ⟨gb, 0, none⟩ = some (.slice (some ⟨mb, 0, none⟩) n1 cap1) ∧ w'.cell? ⟨mb, 0, none⟩ = some (.int .i64 p) ∧ w'.cell? ⟨mb, 1, none⟩ = some (.int .i64 r) ∧ w'.cell? ⟨mb, 2, none⟩ = some (.int .i64 s) ∧ w'.cell? ⟨mb, 3, none⟩ = some (.slice ua un uc) ∧ w'.cell? ⟨sb, 0, none⟩ = some (.slice (some ⟨mb', 0, none⟩) n2 cap2) ∧ w'.cell? ⟨mb', 0, none⟩ = some (.int .i64 p') ∧ w'.cell? ⟨mb', 1, none⟩ = some (.int .i64 r') ∧ w'.cell? ⟨mb', 2, none⟩ = some (.int .i64 s') ∧ w'.cell? ⟨mb', 3, none⟩ = some (.slice ua' un' uc') ∧ Below wr.heap.size wr w') (by kernel_rfl) ⟨s0, s1, s2, s3, s4, a0, a1, a2, a3, a4, b0, b1, b2, b3, b4, Below.drew (Below.refl _ _)⟩ (fun hHeld => ?_)
            refine wpAnyH_take (i := 0) (oi := ⟨some 14, _, _, _, _, _⟩) (v := ?_) rfl (by kernel_rfl) (by kernel_rfl) (by kernel_rfl) (fun _ _ _ h => h) (Or.inl ⟨by rfl, ?_⟩) (by assumption) ?_
            rotate_left 1
            · intro w hSw; (try dsimp only at hSw); go_simp; try (with_reducible rfl)
            try simp only [Act.put, List.setIfInBounds_toArray, List.set_cons_zero, List.set_cons_succ]
            refine wpAnyH_take (i := 1) (oi := ⟨some 15, _, _, _, _, _⟩) (v := ?_) rfl (by kernel_rfl) (by kernel_rfl) (by kernel_rfl) (fun _ _ _ h => h) (Or.inl ⟨by rfl, ?_⟩) (by assumption) ?_
            rotate_left 1
            · intro w hSw; (try dsimp only at hSw); go_simp; try (with_reducible rfl)
            try simp only [Act.put, List.setIfInBounds_toArray, List.set_cons_zero, List.set_cons_succ]
            refine wpAnyH_ready (rs := [2]) (by kernel_rfl) (by simp) ?_
            refine AllReadyH.cons (o := ⟨some 16, _, _, _, _, _⟩) rfl (fun K hK => ?_) AllReadyH.nil
            go_simp
            refine (fr _ (bstep D.out hHeld.2.2.2.2.2.2.2.2.2.2.2.2.2.2.2)).mono ?_
            rintro e w2 ⟨rfl, hb⟩
            go_wp2_with fail
            refine hK.out _ _ ?_ (fun hHeld2 => ?_)
            · exact ⟨cell_later hb hHeld.1, cell_later hb hHeld.2.1, cell_later hb hHeld.2.2.1, cell_later hb hHeld.2.2.2.1, cell_later hb hHeld.2.2.2.2.1, cell_later hb hHeld.2.2.2.2.2.1, cell_later hb hHeld.2.2.2.2.2.2.1, cell_later hb hHeld.2.2.2.2.2.2.2.1, cell_later hb hHeld.2.2.2.2.2.2.2.2.1, cell_later hb hHeld.2.2.2.2.2.2.2.2.2.1, cell_later hb hHeld.2.2.2.2.2.2.2.2.2.2.1, cell_later hb hHeld.2.2.2.2.2.2.2.2.2.2.2.1, cell_later hb hHeld.2.2.2.2.2.2.2.2.2.2.2.2.1, cell_later hb hHeld.2.2.2.2.2.2.2.2.2.2.2.2.2.1, cell_later hb hHeld.2.2.2.2.2.2.2.2.2.2.2.2.2.2.1, hHeld.2.2.2.2.2.2.2.2.2.2.2.2.2.2.2.trans (hb.mono hHeld.2.2.2.2.2.2.2.2.2.2.2.2.2.2.2.size)⟩
            clear hK K hHeld hb
            have hHeld := hHeld2
            clear hHeld2
            try simp only [Act.put, List.setIfInBounds_toArray, List.set_cons_zero, List.set_cons_succ]
            refine wpAnyH_take (i := 3) (oi := ⟨some 17, _, _, _, _, _⟩) (v := ?_) rfl (by kernel_rfl) (by kernel_rfl) (by kernel_rfl) (fun _ _ _ h => h) (Or.inl ⟨by rfl, ?_⟩) (by assumption) ?_
            rotate_left 1
            · intro w hSw; (try dsimp only at hSw); go_simp; try (with_reducible rfl)
            try simp only [Act.put, List.setIfInBounds_toArray, List.set_cons_zero, List.set_cons_succ]
            refine wpAnyH_take (i := 4) (oi := ⟨some 18, _, _, _, _, _⟩) (v := ?_) rfl (by kernel_rfl) (by kernel_rfl) (by kernel_rfl) (fun _ _ _ h => h) (Or.inl ⟨by rfl, ?_⟩) (by assumption) ?_
            rotate_left 1
            · intro w hSw; (try dsimp only at hSw); go_simp; try (with_reducible rfl)
            try simp only [Act.put, List.setIfInBounds_toArray, List.set_cons_zero, List.set_cons_succ]
            refine wpAnyH_take (i := 5) (oi := ⟨some 19, _, _, _, _, _⟩) (v := ?_) rfl (by kernel_rfl) (by kernel_rfl) (by kernel_rfl) (fun _ _ _ h => h) (Or.inl ⟨by rfl, ?_⟩) (by assumption) ?_
            rotate_left 1
            · intro w hSw; (try dsimp only at hSw); go_simp; try (with_reducible rfl)
            try simp only [Act.put, List.setIfInBounds_toArray, List.set_cons_zero, List.set_cons_succ]
            refine wpAnyH_take (i := 6) (oi := ⟨some 20, _, _, _, _, _⟩) (v := ?_) rfl (by kernel_rfl) (by kernel_rfl) (by kernel_rfl) (fun _ _ _ h => h) (Or.inl ⟨by rfl, ?_⟩) (by assumption) ?_
            rotate_left 1
            · intro w hSw; (try dsimp only at hSw); go_simp; try (with_reducible rfl)
            try simp only [Act.put, List.setIfInBounds_toArray, List.set_cons_zero, List.set_cons_succ]
            refine wpAnyH_take (i := 7) (oi := ⟨some 21, _, _, _, _, _⟩) (v := ?_) rfl (by kernel_rfl) (by kernel_rfl) (by kernel_rfl) (fun _ _ _ h => h) (Or.inl ⟨by rfl, ?_⟩) (by assumption) ?_
            rotate_left 1
            · intro w hSw; (try dsimp only at hSw); go_simp; try (with_reducible rfl)
            try simp only [Act.put, List.setIfInBounds_toArray, List.set_cons_zero, List.set_cons_succ]
            refine wpAnyH_take (i := 8) (oi := ⟨some 22, _, _, _, _, _⟩) (v := ?_) rfl (by kernel_rfl) (by kernel_rfl) (by kernel_rfl) (fun _ _ _ h => h) (Or.inl ⟨by rfl, ?_⟩) (by assumption) ?_
            rotate_left 1
            · intro w hSw; (try dsimp only at hSw); go_simp; try (with_reducible rfl)
            try simp only [Act.put, List.setIfInBounds_toArray, List.set_cons_zero, List.set_cons_succ]
            refine wpAnyH_take (i := 9) (oi := ⟨some 23, _, _, _, _, _⟩) (v := ?_) rfl (by kernel_rfl) (by kernel_rfl) (by kernel_rfl) (fun _ _ _ h => h) (Or.inl ⟨by rfl, ?_⟩) (by assumption) ?_
            rotate_left 1
            · intro w hSw; (try dsimp only at hSw); go_simp; try (with_reducible rfl)
            try simp only [Act.put, List.setIfInBounds_toArray, List.set_cons_zero, List.set_cons_succ]
            refine wpAnyH_take (i := 10) (oi := ⟨some 24, _, _, _, _, _⟩) (v := ?_) rfl (by kernel_rfl) (by kernel_rfl) (by kernel_rfl) (fun _ _ _ h => h) (Or.inl ⟨by rfl, ?_⟩) (by assumption) ?_
            rotate_left 1
            · intro w hSw; (try dsimp only at hSw); go_simp; try (with_reducible rfl)
            try simp only [Act.put, List.setIfInBounds_toArray, List.set_cons_zero, List.set_cons_succ]
            refine wpAnyH_take (i := 11) (oi := ⟨some 25, _, _, _, _, _⟩) (v := ?_) rfl (by kernel_rfl) (by kernel_rfl) (by kernel_rfl) (fun _ _ _ h => h) (Or.inl ⟨by rfl, ?_⟩) (by assumption) ?_
            rotate_left 1
            · intro w hSw; (try dsimp only at hSw); go_simp; try (with_reducible rfl)
            try simp only [Act.put, List.setIfInBounds_toArray, List.set_cons_zero, List.set_cons_succ]
            refine wpAnyH_take (i := 12) (oi := ⟨some 26, _, _, _, _, _⟩) (v := ?_) rfl (by kernel_rfl) (by kernel_rfl) (by kernel_rfl) (fun _ _ _ h => h) (Or.inl ⟨by rfl, ?_⟩) (by assumption) ?_
            rotate_left 1
            · intro w hSw; (try dsimp only at hSw); go_simp; try (with_reducible rfl)
            try simp only [Act.put, List.setIfInBounds_toArray, List.set_cons_zero, List.set_cons_succ]
            refine wpAnyH_take (i := 13) (oi := ⟨some 27, _, _, _, _, _⟩) (v := ?_) rfl (by kernel_rfl) (by kernel_rfl) (by kernel_rfl) (fun _ _ _ h => h) (Or.inl ⟨by rfl, ?_⟩) (by assumption) ?_
            rotate_left 1
            · intro w hSw; (try dsimp only at hSw); go_simp; try (with_reducible rfl)
            try simp only [Act.put, List.setIfInBounds_toArray, List.set_cons_zero, List.set_cons_succ]
            refine wpAnyH_take (i := 14) (oi := ⟨some 28, _, _, _, _, _⟩) (v := ?_) rfl (by kernel_rfl) (by kernel_rfl) (by kernel_rfl) (fun _ _ _ h => h) (Or.inl ⟨by rfl, ?_⟩) (by assumption) ?_
            rotate_left 1
            · intro w hSw; (try dsimp only at hSw); go_simp; try (with_reducible rfl)
            try simp only [Act.put, List.setIfInBounds_toArray, List.set_cons_zero, List.set_cons_succ]
            refine wpAnyH_take (i := 15) (oi := ⟨some 29, _, _, _, _, _⟩) (v := ?_) rfl (by kernel_rfl) (by kernel_rfl) (by kernel_rfl) (fun _ _ _ h => h) (Or.inl ⟨by rfl, ?_⟩) (by assumption) ?_
            rotate_left 1
            · intro w hSw; (try dsimp only at hSw); go_simp; try (with_reducible rfl)
            try simp only [Act.put, List.setIfInBounds_toArray, List.set_cons_zero, List.set_cons_succ]
            refine wpAnyH_take (i := 16) (oi := ⟨some 30, _, _, _, _, _⟩) (v := ?_) rfl (by kernel_rfl) (by kernel_rfl) (by kernel_rfl) (fun _ _ _ h => h) (Or.inl ⟨by rfl, ?_⟩) (by assumption) ?_
            rotate_left 1
            · intro w hSw; (try dsimp only at hSw); go_simp; try (with_reducible rfl)
            try simp only [Act.put, List.setIfInBounds_toArray, List.set_cons_zero, List.set_cons_succ]
            refine wpAnyH_take (i := 17) (oi := ⟨some 31, _, _, _, _, _⟩) (v := ?_) rfl (by kernel_rfl) (by kernel_rfl) (by kernel_rfl) (fun _ _ _ h => h) (Or.inl ⟨by rfl, ?_⟩) (by assumption) ?_
            rotate_left 1
            · intro w hSw; (try dsimp only at hSw); go_simp; try (with_reducible rfl)
            try simp only [Act.put, List.setIfInBounds_toArray, List.set_cons_zero, List.set_cons_succ]
            refine wpAnyH_take (i := 18) (oi := ⟨some 32, _, _, _, _, _⟩) (v := ?_) rfl (by kernel_rfl) (by kernel_rfl) (by kernel_rfl) (fun _ _ _ h => h) (Or.inl ⟨by rfl, ?_⟩) (by assumption) ?_
            rotate_left 1
            · intro w hSw; (try dsimp only at hSw); go_simp; try (with_reducible rfl)
            try simp only [Act.put, List.setIfInBounds_toArray, List.set_cons_zero, List.set_cons_succ]
            refine wpAnyH_ready (rs := [19]) (by kernel_rfl) (by simp) ?_
            refine AllReadyH.cons (o := ⟨some 33, _, _, _, _, _⟩) rfl (fun K hK => ?_) AllReadyH.nil
            go_simp
            refine (cm _).mono ?_
            rintro e w3 ⟨rfl, hb⟩
            go_wp2_with fail
            refine hK.out _ _ ?_ (fun hHeld2 => ?_)
            · exact ⟨cell_later hb hHeld.1, cell_later hb hHeld.2.1, cell_later hb hHeld.2.2.1, cell_later hb hHeld.2.2.2.1, cell_later hb hHeld.2.2.2.2.1, cell_later hb hHeld.2.2.2.2.2.1, cell_later hb hHeld.2.2.2.2.2.2.1, cell_later hb hHeld.2.2.2.2.2.2.2.1, cell_later hb hHeld.2.2.2.2.2.2.2.2.1, cell_later hb hHeld.2.2.2.2.2.2.2.2.2.1, cell_later hb hHeld.2.2.2.2.2.2.2.2.2.2.1, cell_later hb hHeld.2.2.2.2.2.2.2.2.2.2.2.1, cell_later hb hHeld.2.2.2.2.2.2.2.2.2.2.2.2.1, cell_later hb hHeld.2.2.2.2.2.2.2.2.2.2.2.2.2.1, cell_later hb hHeld.2.2.2.2.2.2.2.2.2.2.2.2.2.2.1, hHeld.2.2.2.2.2.2.2.2.2.2.2.2.2.2.2.trans (hb.mono hHeld.2.2.2.2.2.2.2.2.2.2.2.2.2.2.2.size)⟩
            clear hK K hHeld hb
            have hHeld := hHeld2
            clear hHeld2
            try simp only [Act.put, List.setIfInBounds_toArray, List.set_cons_zero, List.set_cons_succ]
            refine wpAnyH_take (i := 20) (oi := ⟨some 34, _, _, _, _, _⟩) (v := ?_) rfl (by kernel_rfl) (by kernel_rfl) (by kernel_rfl) (fun _ _ _ h => h) (Or.inl ⟨by rfl, ?_⟩) (by assumption) ?_
            rotate_left 1
            · intro w hSw; (try dsimp only at hSw); go_simp; try (with_reducible rfl)
            try simp only [Act.put, List.setIfInBounds_toArray, List.set_cons_zero, List.set_cons_succ]
            refine wpAnyH_take (i := 21) (oi := ⟨some 35, _, _, _, _, _⟩) (v := ?_) rfl (by kernel_rfl) (by kernel_rfl) (by kernel_rfl) (fun _ _ _ h => h) (Or.inl ⟨by rfl, ?_⟩) (by assumption) ?_
            rotate_left 1
            · intro w hSw; (try dsimp only at hSw); go_simp; try (with_reducible rfl)
            try simp only [Act.put, List.setIfInBounds_toArray, List.set_cons_zero, List.set_cons_succ]
            refine wpAnyH_take (i := 22) (oi := ⟨some 36, _, _, _, _, _⟩) (v := ?_) rfl (by kernel_rfl) (by kernel_rfl) (by kernel_rfl) (fun _ _ _ h => h) (Or.inl ⟨by rfl, ?_⟩) (by assumption) ?_
            rotate_left 1
            · intro w hSw; (try dsimp only at hSw); go_simp; try (with_reducible rfl)
            try simp only [Act.put, List.setIfInBounds_toArray, List.set_cons_zero, List.set_cons_succ]
            refine wpAnyH_done (by kernel_rfl) ?_ _
            try simp only [Act.put, List.setIfInBounds_toArray, List.set_cons_zero, List.set_cons_succ]
            have D2 := Lib.hid (bstep D.out hHeld.2.2.2.2.2.2.2.2.2.2.2.2.2.2.2)
            have X2 := hXn.out _ hHeld.2.2.2.2.2.2.2.2.2.2.2.2.2.2.2
            clear hHeld D s0 s1 s2 s3 s4 hX c0 hg4 a0 a1 a2 a3 a4 b0 b1 b2 b3 b4
            go_wp2_with fail
            go_roundw
            case rel => exact ⟨k + 1, by omega, by go_num, R1, X2, D2⟩
            case measure => simp [intOf]; omega
          · have R1 : Hid (SfR N T gs H (k + 1) (.pointer (some ⟨sb, 0, none⟩))) := Lib.hid (by
              have := SfR.keep (gs := gs) hv.out hjk hjf.out hjm.out hHl.out hHj (fun h => hz0 (hz.out.2 h))
              rw [hsb.out] at this; exact this)
            go_upto_region 5 with fail
            refine wp_region_held_drew (S := fun w' => w'.cell? ⟨w.heap.size, 0, none⟩ = some (.int .u64 (R 0)) ∧ w'.cell? ⟨w.heap.size, 1, none⟩ = some (.int .u64 (R 1)) ∧ w'.cell? ⟨w.heap.size, 2, none⟩ = some (.int .u64 (R 2)) ∧ w'.cell? ⟨w.heap.size, 3, none⟩ = some (.int .u64 (R 3)) ∧ w'.cell? ⟨w.heap.size, 4, none⟩ = some (.int .u64 (R 4)) ∧ w'.cell? ⟨gb, 0, none⟩ = some (.slice (some ⟨mb, 0, none⟩) n1 cap1) ∧ w'.cell? ⟨mb, 0, none⟩ = some (.int .i64 p) ∧ w'.cell? ⟨mb, 1, none⟩ = some (.int .i64 r) ∧ w'.cell? ⟨mb, 2, none⟩ = some (.int .i64 s) ∧ w'.cell? ⟨mb, 3, none⟩ = some (.slice ua un uc) ∧ w'.cell? ⟨sb, 0, none⟩ = some (.slice (some ⟨mb', 0, none⟩) n2 cap2) ∧ w'.cell? ⟨mb', 0, none⟩ = some (.int .i64 p') ∧ w'.cell? ⟨mb', 1, none⟩ = some (.int .i64 r') ∧ w'.cell? ⟨mb', 2, none⟩ = some (.int .i64 s') ∧ w'.cell? ⟨mb', 3, none⟩ = some (.slice ua' un' uc') ∧ Below wr.heap.size wr w') (by kernel_rfl) ⟨s0, s1, s2, s3, s4, a0, a1, a2, a3, a4, b0, b1, b2, b3, b4, Below.drew (Below.refl _ _)⟩ (fun hHeld => ?_)
            refine wpAnyH_take (i := 0) (oi := ⟨some 14, _, _, _, _, _⟩) (v := ?_) rfl (by kernel_rfl) (by kernel_rfl) (by kernel_rfl) (fun _ _ _ h => h) (Or.inl ⟨by rfl, ?_⟩) (by assumption) ?_
            rotate_left 1
            · intro w hSw; (try dsimp only at hSw); go_simp; try (with_reducible rfl)
            try simp only [Act.put, List.setIfInBounds_toArray, List.set_cons_zero, List.set_cons_succ]
            refine wpAnyH_take (i := 1) (oi := ⟨some 15, _, _, _, _, _⟩) (v := ?_) rfl (by kernel_rfl) (by kernel_rfl) (by kernel_rfl) (fun _ _ _ h => h) (Or.inl ⟨by rfl, ?_⟩) (by assumption) ?_
            rotate_left 1
            · intro w hSw; (try dsimp only at hSw); go_simp; try (with_reducible rfl)
            try simp only [Act.put, List.setIfInBounds_toArray, List.set_cons_zero, List.set_cons_succ]
            refine wpAnyH_ready (rs := [2]) (by kernel_rfl) (by simp) ?_
            refine AllReadyH.cons (o := ⟨some 16, _, _, _, _, _⟩) rfl (fun K hK => ?_) AllReadyH.nil
            go_simp
            refine (fr _ (bstep D.out hHeld.2.2.2.2.2.2.2.2.2.2.2.2.2.2.2)).mono ?_
            rintro e w2 ⟨rfl, hb⟩
            go_wp2_with fail
            refine hK.out _ _ ?_ (fun hHeld2 => ?_)
            · exact ⟨cell_later hb hHeld.1, cell_later hb hHeld.2.1, cell_later hb hHeld.2.2.1, cell_later hb hHeld.2.2.2.1, cell_later hb hHeld.2.2.2.2.1, cell_later hb hHeld.2.2.2.2.2.1, cell_later hb hHeld.2.2.2.2.2.2.1, cell_later hb hHeld.2.2.2.2.2.2.2.1, cell_later hb hHeld.2.2.2.2.2.2.2.2.1, cell_later hb hHeld.2.2.2.2.2.2.2.2.2.1, cell_later hb hHeld.2.2.2.2.2.2.2.2.2.2.1, cell_later hb hHeld.2.2.2.2.2.2.2.2.2.2.2.1, cell_later hb hHeld.2.2.2.2.2.2.2.2.2.2.2.2.1, cell_later hb hHeld.2.2.2.2.2.2.2.2.2.2.2.2.2.1, cell_later hb hHeld.2.2.2.2.2.2.2.2.2.2.2.2.2.2.1, hHeld.2.2.2.2.2.2.2.2.2.2.2.2.2.2.2.trans (hb.mono hHeld.2.2.2.2.2.2.2.2.2.2.2.2.2.2.2.size)⟩
            clear hK K hHeld hb
            have hHeld := hHeld2
            clear hHeld2
            try simp only [Act.put, List.setIfInBounds_toArray, List.set_cons_zero, List.set_cons_succ]
            refine wpAnyH_take (i := 3) (oi := ⟨some 17, _, _, _, _, _⟩) (v := ?_) rfl (by kernel_rfl) (by kernel_rfl) (by kernel_rfl) (fun _ _ _ h => h) (Or.inl ⟨by rfl, ?_⟩) (by assumption) ?_
            rotate_left 1
            · intro w hSw; (try dsimp only at hSw); go_simp; try (with_reducible rfl)
            try simp only [Act.put, List.setIfInBounds_toArray, List.set_cons_zero, List.set_cons_succ]
            refine wpAnyH_take (i := 4) (oi := ⟨some 18, _, _, _, _, _⟩) (v := ?_) rfl (by kernel_rfl) (by kernel_rfl) (by kernel_rfl) (fun _ _ _ h => h) (Or.inl ⟨by rfl, ?_⟩) (by assumption) ?_
            rotate_left 1
            · intro w hSw; (try dsimp only at hSw); go_simp; try (with_reducible rfl)
            try simp only [Act.put, List.setIfInBounds_toArray, List.set_cons_zero, List.set_cons_succ]
            refine wpAnyH_take (i := 5) (oi := ⟨some 19, _, _, _, _, _⟩) (v := ?_) rfl (by kernel_rfl) (by kernel_rfl) (by kernel_rfl) (fun _ _ _ h => h) (Or.inl ⟨by rfl, ?_⟩) (by assumption) ?_
            rotate_left 1
            · intro w hSw; (try dsimp only at hSw); go_simp; try (with_reducible rfl)
            try simp only [Act.put, List.setIfInBounds_toArray, List.set_cons_zero, List.set_cons_succ]
            refine wpAnyH_take (i := 6) (oi := ⟨some 20, _, _, _, _, _⟩) (v := ?_) rfl (by kernel_rfl) (by kernel_rfl) (by kernel_rfl) (fun _ _ _ h => h) (Or.inl ⟨by rfl, ?_⟩) (by assumption) ?_
            rotate_left 1
            · intro w hSw; (try dsimp only at hSw); go_simp; try (with_reducible rfl)
            try simp only [Act.put, List.setIfInBounds_toArray, List.set_cons_zero, List.set_cons_succ]
            refine wpAnyH_take (i := 7) (oi := ⟨some 21, _, _, _, _, _⟩) (v := ?_) rfl (by kernel_rfl) (by kernel_rfl) (by kernel_rfl) (fun _ _ _ h => h) (Or.inl ⟨by rfl, ?_⟩) (by assumption) ?_
            rotate_left 1
            · intro w hSw; (try dsimp only at hSw); go_simp; try (with_reducible rfl)
            try simp only [Act.put, List.setIfInBounds_toArray, List.set_cons_zero, List.set_cons_succ]
            refine wpAnyH_take (i := 8) (oi := ⟨some 22, _, _, _, _, _⟩) (v := ?_) rfl (by kernel_rfl) (by kernel_rfl) (by kernel_rfl) (fun _ _ _ h => h) (Or.inl ⟨by rfl, ?_⟩) (by assumption) ?_
            rotate_left 1
            · intro w hSw; (try dsimp only at hSw); go_simp; try (with_reducible rfl)
            try simp only [Act.put, List.setIfInBounds_toArray, List.set_cons_zero, List.set_cons_succ]
            refine wpAnyH_take (i := 9) (oi := ⟨some 23, _, _, _, _, _⟩) (v := ?_) rfl (by kernel_rfl) (by kernel_rfl) (by kernel_rfl) (fun _ _ _ h => h) (Or.inl ⟨by rfl, ?_⟩) (by assumption) ?_
            rotate_left 1
            · intro w hSw; (try dsimp only at hSw); go_simp; try (with_reducible rfl)
            try simp only [Act.put, List.setIfInBounds_toArray, List.set_cons_zero, List.set_cons_succ]
            refine wpAnyH_take (i := 10) (oi := ⟨some 24, _, _, _, _, _⟩) (v := ?_) rfl (by kernel_rfl) (by kernel_rfl) (by kernel_rfl) (fun _ _ _ h => h) (Or.inl ⟨by rfl, ?_⟩) (by assumption) ?_
            rotate_left 1
            · intro w hSw; (try dsimp only at hSw); go_simp; try (with_reducible rfl)
            try simp only [Act.put, List.setIfInBounds_toArray, List.set_cons_zero, List.set_cons_succ]
            refine wpAnyH_take (i := 11) (oi := ⟨some 25, _, _, _, _, _⟩) (v := ?_) rfl (by kernel_rfl) (by kernel_rfl) (by kernel_rfl) (fun _ _ _ h => h) (Or.inl ⟨by rfl, ?_⟩) (by assumption) ?_
            rotate_left 1
            · intro w hSw; (try dsimp only at hSw); go_simp; try (with_reducible rfl)
            try simp only [Act.put, List.setIfInBounds_toArray, List.set_cons_zero, List.set_cons_succ]
            refine wpAnyH_take (i := 12) (oi := ⟨some 26, _, _, _, _, _⟩) (v := ?_) rfl (by kernel_rfl) (by kernel_rfl) (by kernel_rfl) (fun _ _ _ h => h) (Or.inl ⟨by rfl, ?_⟩) (by assumption) ?_
            rotate_left 1
            · intro w hSw; (try dsimp only at hSw); go_simp; try (with_reducible rfl)
            try simp only [Act.put, List.setIfInBounds_toArray, List.set_cons_zero, List.set_cons_succ]
            refine wpAnyH_take (i := 13) (oi := ⟨some 27, _, _, _, _, _⟩) (v := ?_) rfl (by kernel_rfl) (by kernel_rfl) (by kernel_rfl) (fun _ _ _ h => h) (Or.inl ⟨by rfl, ?_⟩) (by assumption) ?_
            rotate_left 1
            · intro w hSw; (try dsimp only at hSw); go_simp; try (with_reducible rfl)
            try simp only [Act.put, List.setIfInBounds_toArray, List.set_cons_zero, List.set_cons_succ]
            refine wpAnyH_take (i := 14) (oi := ⟨some 28, _, _, _, _, _⟩) (v := ?_) rfl (by kernel_rfl) (by kernel_rfl) (by kernel_rfl) (fun _ _ _ h => h) (Or.inl ⟨by rfl, ?_⟩) (by assumption) ?_
            rotate_left 1
            · intro w hSw; (try dsimp only at hSw); go_simp; try (with_reducible rfl)
            try simp only [Act.put, List.setIfInBounds_toArray, List.set_cons_zero, List.set_cons_succ]
            refine wpAnyH_take (i := 15) (oi := ⟨some 29, _, _, _, _, _⟩) (v := ?_) rfl (by kernel_rfl) (by kernel_rfl) (by kernel_rfl) (fun _ _ _ h => h) (Or.inl ⟨by rfl, ?_⟩) (by assumption) ?_
            rotate_left 1
            · intro w hSw; (try dsimp only at hSw); go_simp; try (with_reducible rfl)
            try simp only [Act.put, List.setIfInBounds_toArray, List.set_cons_zero, List.set_cons_succ]
            refine wpAnyH_take (i := 16) (oi := ⟨some 30, _, _, _, _, _⟩) (v := ?_) rfl (by kernel_rfl) (by kernel_rfl) (by kernel_rfl) (fun _ _ _ h => h) (Or.inl ⟨by rfl, ?_⟩) (by assumption) ?_
            rotate_left 1
            · intro w hSw; (try dsimp only at hSw); go_simp; try (with_reducible rfl)
            try simp only [Act.put, List.setIfInBounds_toArray, List.set_cons_zero, List.set_cons_succ]
            refine wpAnyH_take (i := 17) (oi := ⟨some 31, _, _, _, _, _⟩) (v := ?_) rfl (by kernel_rfl) (by kernel_rfl) (by kernel_rfl) (fun _ _ _ h => h) (Or.inl ⟨by rfl, ?_⟩) (by assumption) ?_
            rotate_left 1
            · intro w hSw; (try dsimp only at hSw); go_simp; try (with_reducible rfl)
            try simp only [Act.put, List.setIfInBounds_toArray, List.set_cons_zero, List.set_cons_succ]
            refine wpAnyH_take (i := 18) (oi := ⟨some 32, _, _, _, _, _⟩) (v := ?_) rfl (by kernel_rfl) (by kernel_rfl) (by kernel_rfl) (fun _ _ _ h => h) (Or.inl ⟨by rfl, ?_⟩) (by assumption) ?_
            rotate_left 1
            · intro w hSw; (try dsimp only at hSw); go_simp; try (with_reducible rfl)
            try simp only [Act.put, List.setIfInBounds_toArray, List.set_cons_zero, List.set_cons_succ]
            refine wpAnyH_ready (rs := [19]) (by kernel_rfl) (by simp) ?_
            refine AllReadyH.cons (o := ⟨some 33, _, _, _, _, _⟩) rfl (fun K hK => ?_) AllReadyH.nil
            go_simp
            refine (cm _).mono ?_
            rintro e w3 ⟨rfl, hb⟩
            go_wp2_with fail
            refine hK.out _ _ ?_ (fun hHeld2 => ?_)
            · exact ⟨cell_later hb hHeld.1, cell_later hb hHeld.2.1, cell_later hb hHeld.2.2.1, cell_later hb hHeld.2.2.2.1, cell_later hb hHeld.2.2.2.2.1, cell_later hb hHeld.2.2.2.2.2.1, cell_later hb hHeld.2.2.2.2.2.2.1, cell_later hb hHeld.2.2.2.2.2.2.2.1, cell_later hb hHeld.2.2.2.2.2.2.2.2.1, cell_later hb hHeld.2.2.2.2.2.2.2.2.2.1, cell_later hb hHeld.2.2.2.2.2.2.2.2.2.2.1, cell_later hb hHeld.2.2.2.2.2.2.2.2.2.2.2.1, cell_later hb hHeld.2.2.2.2.2.2.2.2.2.2.2.2.1, cell_later hb hHeld.2.2.2.2.2.2.2.2.2.2.2.2.2.1, cell_later hb hHeld.2.2.2.2.2.2.2.2.2.2.2.2.2.2.1, hHeld.2.2.2.2.2.2.2.2.2.2.2.2.2.2.2.trans (hb.mono hHeld.2.2.2.2.2.2.2.2.2.2.2.2.2.2.2.size)⟩
            clear hK K hHeld hb
            have hHeld := hHeld2
            clear hHeld2
            try simp only [Act.put, List.setIfInBounds_toArray, List.set_cons_zero, List.set_cons_succ]
            refine wpAnyH_take (i := 20) (oi := ⟨some 34, _, _, _, _, _⟩) (v := ?_) rfl (by kernel_rfl) (by kernel_rfl) (by kernel_rfl) (fun _ _ _ h => h) (Or.inl ⟨by rfl, ?_⟩) (by assumption) ?_
            rotate_left 1
            · intro w hSw; (try dsimp only at hSw); go_simp; try (with_reducible rfl)
            try simp only [Act.put, List.setIfInBounds_toArray, List.set_cons_zero, List.set_cons_succ]
            refine wpAnyH_take (i := 21) (oi := ⟨some 35, _, _, _, _, _⟩) (v := ?_) rfl (by kernel_rfl) (by kernel_rfl) (by kernel_rfl) (fun _ _ _ h => h) (Or.inl ⟨by rfl, ?_⟩) (by assumption) ?_
            rotate_left 1
            · intro w hSw; (try dsimp only at hSw); go_simp; try (with_reducible rfl)
            try simp only [Act.put, List.setIfInBounds_toArray, List.set_cons_zero, List.set_cons_succ]
            refine wpAnyH_take (i := 22) (oi := ⟨some 36, _, _, _, _, _⟩) (v := ?_) rfl (by kernel_rfl) (by kernel_rfl) (by kernel_rfl) (fun _ _ _ h => h) (Or.inl ⟨by rfl, ?_⟩) (by assumption) ?_
            rotate_left 1
            · intro w hSw; (try dsimp only at hSw); go_simp; try (with_reducible rfl)
            try simp only [Act.put, List.setIfInBounds_toArray, List.set_cons_zero, List.set_cons_succ]
            refine wpAnyH_done (by kernel_rfl) ?_ _
            try simp only [Act.put, List.setIfInBounds_toArray, List.set_cons_zero, List.set_cons_succ]
            have D2 := Lib.hid (bstep D.out hHeld.2.2.2.2.2.2.2.2.2.2.2.2.2.2.2)
            have X2 := hXn.out _ hHeld.2.2.2.2.2.2.2.2.2.2.2.2.2.2.2
            clear hHeld D s0 s1 s2 s3 s4 hX c0 hg4 a0 a1 a2 a3 a4 b0 b1 b2 b3 b4
            go_wp2_with fail
            go_roundw
            case rel => exact ⟨k + 1, by omega, by go_num, R1, X2, D2⟩
            case measure => simp [intOf]; omega
    · obtain rfl : k = n := by omega
      go_wp2_with fail
      go_ret
      exact ⟨_, rfl, hS.out, D.out⟩
end Go.Proofs.Ytbklkhndjckckaa

/- The model's l3Put. -/
namespace Go.Proofs.Ytbklkhndjckckaa
open Go.RowKit
set_option linter.unusedVariables false

theorem infoP : (Try.prog.info? 31).map (fun i => (i.zero, i.size, i.bytes)) = some (some (.agg #[.int .i64 0, .int .i64 0]), 2, 16) := by kernel_rfl

/-- A slice of ids that is being built: in memory from B on, in a block of its own. -/
def Row (w : World) (B : Nat) (v : Value) (O : List Pid) : Prop := w.ownsRow B 31 2 v O.length (flatP O) ∧ v ≠ .slice none 0 0

theorem row_new (w : World) (B : Nat) (hB : B ≤ w.heap.size) : Row (w.alloc (.cells #[] 31)) B (.slice (some ⟨w.heap.size, 0, none⟩) 0 0) [] :=
  ⟨World.ownsRow_made _ #[] 0 hB (Nat.zero_le _) rfl, by simp⟩
theorem Row.shape {w : World} {B : Nat} {v : Value} {O : List Pid} (h : Row w B v O) : ∃ g cap, v = .slice (some ⟨g, 0, none⟩) O.length cap ∧ B ≤ g ∧ g < w.heap.size ∧ O.length ≤ cap ∧ cap ≤ maxLen := by
  rcases h.1.2 with ⟨rfl, _⟩ | ⟨g, cap, cur, rfl, h1, h2, h3, h4, h5, h6⟩
  · exact absurd rfl h.2
  · exact ⟨g, cap, rfl, h1, lt_of_heap h2, h3, h4⟩
theorem Row.own {w : World} {B : Nat} {v : Value} {O : List Pid} (h : Row w B v O) (hl : O.length ≤ 2000000) : ∃ b, B ≤ b ∧ OwnP w b v O := OwnP.of_row h.1 rfl hl h.2
/-- Other memory may turn. -/
theorem Row.up {w w' : World} {B : Nat} {v : Value} {O : List Pid} (h : Row w B v O) (hb : Below w.heap.size w w') : Row w' B v O := by
  refine ⟨?_, h.2⟩
  refine ⟨h.1.1, ?_⟩
  rcases h.1.2 with h1 | ⟨g, cap, cur, e, h1, h2, h3⟩
  · exact .inl h1
  · exact .inr ⟨g, cap, cur, e, h1, (hb.block g (lt_of_heap h2)).trans h2, h3⟩
theorem Row.put {w w' : World} {B : Nat} {v v' : Value} {O : List Pid} {x y : Int} (h : Row w B v O) (hown : w'.ownsRow B 31 2 v' (O.length + 1) (flatP O ++ [.int .i64 x, .int .i64 y])) (hn : v' ≠ .slice none 0 0) : Row w' B v' (O ++ [(x, y)]) :=
  ⟨by rw [flatP_app]; simpa [flatP, idv] using hown, hn⟩
/-- What an append leaves of elder memory. -/
theorem grown_below {w w' : World} {B : Nat} {v : Value} {O : List Pid} (h : Row w B v O) (hg : w.grownBy w' (Value.ownBlock v)) (hB : B ≤ w.heap.size) : Below B w w' := by
  obtain ⟨g, cap, rfl, h1, _⟩ := h.shape
  exact ⟨hg.os, hg.tape, hg.output, hg.size, fun k hk => hg.block k (by omega) (fun e => by simp [Value.ownBlock] at e; omega)⟩

/-- What is left of l3Put's loop. -/
theorem put_in {O L : List Pid} {a x : Pid} {k : Nat} (hk : k < L.length) (hx : L.getD k nop = x) (h : O ++ putF true a (L.drop k) = putP L a) : (O ++ [x]) ++ putF true a (L.drop (k + 1)) = putP L a := by
  rw [← h, drop_next hk, hx]; simp [putF]
theorem put_miss {O L : List Pid} {a x : Pid} {k : Nat} (hk : k < L.length) (hx : L.getD k nop = x) (hl : ltP a x = false) (h : O ++ putF false a (L.drop k) = putP L a) : (O ++ [x]) ++ putF false a (L.drop (k + 1)) = putP L a := by
  rw [← h, drop_next hk, hx, putF_miss hl]; simp
theorem put_hit {O L : List Pid} {a x : Pid} {k : Nat} (hk : k < L.length) (hx : L.getD k nop = x) (hl : ltP a x = true) (h : O ++ putF false a (L.drop k) = putP L a) : (O ++ [a] ++ [x]) ++ putF true a (L.drop (k + 1)) = putP L a := by
  rw [← h, drop_next hk, hx, putF_hit hl]; simp
theorem put_len {O L : List Pid} {a : Pid} {d : Bool} {k : Nat} (h : O ++ putF d a (L.drop k) = putP L a) : O.length ≤ L.length + 1 := by
  have := congrArg List.length h
  rw [List.length_append] at this
  have := (len_putP L a).2
  omega

theorem two_cells (w : World) (t : TypeId) (x y : Value) (n : Nat) (hn : n = w.heap.size) : ∀ j u, [x, y][j]? = some u → (w.alloc (.cells #[x, y] t)).cell? ((⟨n, 0, none⟩ : Addr).add j) = some u := by
  subst hn
  intro j u hj
  match j, hj with
  | 0, hj => simp at hj; subst hj; simp [Addr.add]
  | 1, hj => simp at hj; subst hj; simp [Addr.add]
  | j + 2, hj => simp at hj

theorem put_mid {w wc w4 : World} {v v' : Value} {O : List Pid} {x y p r : Int} {o : Obj} (D : Below w.heap.size w wc) (hA : wc.heap[w.heap.size]? = some (.cells #[.int .i64 x, .int .i64 y] 31 (0, 0))) (hR : Row wc (w.heap.size + 1) v O)
    (hown : w4.ownsRow (w.heap.size + 1) 31 2 v' (O.length + 1) (flatP O ++ [.int .i64 p, .int .i64 r])) (hg : (wc.alloc o).grownBy w4 (Value.ownBlock v)) (hn : v' ≠ .slice none 0 0) :
    Row w4 (w.heap.size + 1) v' (O ++ [(p, r)]) ∧ w4.heap[w.heap.size]? = some (.cells #[.int .i64 x, .int .i64 y] 31 (0, 0)) ∧ Below w.heap.size w w4 := by
  have hR1 : Row (wc.alloc o) (w.heap.size + 1) v O := hR.up ((Below.refl _ _).alloc (Nat.le_refl _) _)
  have hs := lt_of_heap hA
  have B4 := grown_below hR1 hg (by simp; omega)
  exact ⟨hR.put hown hn, (B4.block w.heap.size (by omega)).trans ((Below.heap_alloc _ _ _ hs).trans hA), (D.alloc D.size _).trans (B4.mono (by omega))⟩

/-- What l3Put leaves. -/
def PutPost (L : List Pid) (a : Pid) (w : World) (e : Ending) (w' : World) : Prop :=
  ∃ b u, w.heap.size ≤ b ∧ e = .returned u ∧ OwnP w' b u (putP L a) ∧ Below w.heap.size w w'

/-- The loop's relation: the box of the id lies at w's end. -/
def PutRel (L : List Pid) (x y : Int) (w : World) (k : Nat) (v : Value) (d : Bool) (wr : World) : Prop :=
  ∃ O : List Pid, Row wr (w.heap.size + 1) v O ∧ O ++ putF d (x, y) (L.drop k) = putP L (x, y) ∧ wr.heap[w.heap.size]? = some (.cells #[.int .i64 x, .int .i64 y] 31 (0, 0)) ∧ Below w.heap.size w wr

set_option maxRecDepth 100000 in
set_option maxHeartbeats 4000000 in
theorem sput_at (b off ca : Nat) (L : List Pid) (x y : Int) (w : World) (hb : b < w.heap.size) (hm : L.length ≤ 1900000) (h : ∀ i, i < L.length → w.cell? ⟨b, off + i * 2, none⟩ = some (.int .i64 (L.getD i nop).1) ∧ w.cell? ⟨b, off + i * 2 + 1, none⟩ = some (.int .i64 (L.getD i nop).2)) :
    Calls Try.prog 55 #[.slice (some ⟨b, off, none⟩) L.length ca, .agg #[.int .i64 x, .int .i64 y]] w (PutPost L (x, y) w) := by
  obtain ⟨i0, hi, hz0, hz1, hz2⟩ := info_parts infoP
  have sh := shas_at b off ca L x y
  have h := Lib.hid h
  obtain ⟨n, hn⟩ : ∃ n, Hid (L.length = n) := ⟨_, Lib.hid rfl⟩
  obtain ⟨d0, hd0⟩ : ∃ q, Hid (hasP L (x, y) = q) := ⟨_, Lib.hid rfl⟩
  rw [hn.out] at hm sh ⊢
  rw [hd0.out] at sh
  have R0 : Hid (Row ((w.alloc (.cells #[.int .i64 x, .int .i64 y] 31)).alloc (.cells #[] 31)) (w.heap.size + 1) (.slice (some ⟨w.heap.size + 1, 0, none⟩) 0 0) []) := Lib.hid (by have := row_new (w.alloc (.cells #[.int .i64 x, .int .i64 y] 31)) (w.heap.size + 1) (by simp); simpa using this)
  go_enter Try.func55, Try.ntmps55
  go_wp2_with fail
  refine (sh _ (by simp; omega) (by omega) (fun i hi' => ?_)).mono ?_
  · have D0 : Below w.heap.size w ((w.alloc (.cells #[.int .i64 x, .int .i64 y] 31)).alloc (.cells #[] 31)) := ((Below.refl _ _).alloc (Nat.le_refl _) _).alloc (by simp) _
    rw [D0.cell (p := ⟨b, off + i * 2, none⟩) hb, D0.cell (p := ⟨b, off + i * 2 + 1, none⟩) hb]
    exact h.out i (by rw [hn.out]; exact hi')
  rintro e w1 ⟨rfl, hb1⟩
  have R1 : Hid (PutRel L x y w 0 (.slice (some ⟨w.heap.size + 1, 0, none⟩) 0 0) d0 w1) := Lib.hid ⟨[], R0.out.up hb1, by rw [← hd0.out]; rfl, (hb1.block w.heap.size (by simp; omega)).trans ((Below.heap_alloc _ _ _ (by simp)).trans (heap_alloc_new w _)), (((Below.refl _ _).alloc (Nat.le_refl _) _).alloc (by simp) _).trans (hb1.mono (by simp; omega))⟩
  clear R0 hb1 sh hd0
  go_wp2_with fail
  go_loopw [5, 6, 7] (fun v d i wr => ∃ (k : Nat) (q : Bool), k ≤ n ∧ i = .int .i64 k ∧ d = .bool q ∧ PutRel L x y w k v q wr) (fun _ _ i _ => n - (intOf i).toNat)
  case atStart => exact ⟨0, d0, Nat.zero_le _, rfl, rfl, R1.out⟩
  case round =>
    obtain ⟨k, q, hk, rfl, rfl, O, hR, hE, hA, hnx⟩ := hrel
    clear R1
    have hOl := put_len hE
    rw [hn.out] at hOl
    have hR := Lib.hid hR
    have hE := Lib.hid hE
    obtain ⟨x0, x1, _, _⟩ := blk2 hA
    have hs := lt_of_heap hA
    have hA := Lib.hid hA
    by_cases hlt : k < n
    · obtain ⟨h0, h1⟩ := h.out k (by rw [hn.out]; exact hlt)
      have q0 := (hnx.cell (p := ⟨b, off + k * 2, none⟩) hb).trans h0
      have q1 := (hnx.cell (p := ⟨b, off + k * 2 + 1, none⟩) hb).trans h1
      clear h0 h1
      obtain ⟨c, hc⟩ : ∃ c, Hid (L.getD k nop = c) := ⟨_, Lib.hid rfl⟩
      rw [hc.out] at q0 q1
      obtain ⟨p, r⟩ := c
      dsimp only at q0 q1
      have hnx := Lib.hid hnx
      have q00 := Lib.hid (h.out k (by rw [hn.out]; exact hlt)).1
      have q01 := Lib.hid (h.out k (by rw [hn.out]; exact hlt)).2
      rw [hc.out] at q00 q01
      cases q
      · by_cases hlt2 : ltB x y p r = true
        · have sl := slt_any x y p r
          rw [hlt2] at sl
          have F := Lib.hid (put_hit (by rw [hn.out]; exact hlt) hc.out (show ltP (x, y) (p, r) = true from hlt2) hE.out)
          clear hlt2 h
          go_wp2_with fail
          go_region_with (go_at_call 43; (with_reducible refine (sl _).mono ?_); rintro e w2 ⟨rfl, B⟩; have D2 := Lib.hid (bstep (Below.drew hnx.out) B); have A2 := Lib.hid ((Below.block B _ hs).trans (show wr.drew.heap[w.heap.size]? = _ from hA.out)); have R2 := Lib.hid ((Row.up hR.out (Below.drew (Below.refl _ _))).up B); obtain ⟨x0, x1, _, _⟩ := blk2 A2.out; have q0 := cell_later B (show wr.drew.cell? _ = _ from q0); have q1 := cell_later B (show wr.drew.cell? _ = _ from q1); have hs := lt_of_heap A2.out; have sz := Below.size B; clear B hA hR hnx)
          all_goals
            go_wp2_with (at_builtin; refine wpList_append_own _ rfl _ _ 25 rfl (w.heap.size + 1) 31 i0 (.agg #[.int .i64 0, .int .i64 0]) 2 16 Try.underlying25 hi hz0 hz1 hz2 rfl (by decide) _ _ _ rfl (R2.out.1.alloc _) ⟨w2.heap.size, 0, none⟩ 1 1 [.int .i64 x, .int .i64 y] rfl rfl ?c1 ?c2 ?c3 ?c4 ?c5 ?_)
            case c1 => exact two_cells _ _ _ _ _ (by simp)
            case c2 => intro u hu; simp at hu; rcases hu with rfl | rfl <;> rfl
            case c3 => unfold maxLen; first | omega | (simp; omega)
            case c4 => first | omega | (simp; omega)
            case c5 => first | omega | (simp; omega)
            intro v3 w3 hown' hgrow hnil
            obtain ⟨R1, R2', R3⟩ := put_mid D2.out A2.out R2.out hown' hgrow (fun e => hnil e)
            have R4 := Lib.hid R1
            have A4 := Lib.hid R2'
            have D4 := Lib.hid R3
            have hb4 : Below w2.heap.size w2 w2 := Below.refl _ _
            have q0' : w3.cell? ⟨b, off + k * 2, none⟩ = some (.int .i64 p) := (Below.cell R3 (p := ⟨b, off + k * 2, none⟩) hb).trans q00.out
            have q1' : w3.cell? ⟨b, off + k * 2 + 1, none⟩ = some (.int .i64 r) := (Below.cell R3 (p := ⟨b, off + k * 2 + 1, none⟩) hb).trans q01.out
            obtain ⟨x0', x1', _, _⟩ := blk2 A4.out
            have hs' := lt_of_heap A4.out
            have hOl' : (O ++ [(x, y)]).length ≤ 1900002 := by simp; omega
            clear hown' hgrow hnil R1 R2' R3 hb4 q0 q1 x0 x1 D2 A2 R2
            obtain ⟨O2, hO2⟩ : ∃ O2, O ++ [(x, y)] = O2 := ⟨_, rfl⟩
            rw [hO2] at R4 F hOl'
            clear hO2
            go_wp2_with (at_builtin; refine wpList_append_own _ rfl _ _ 25 rfl (w.heap.size + 1) 31 i0 (.agg #[.int .i64 0, .int .i64 0]) 2 16 Try.underlying25 hi hz0 hz1 hz2 rfl (by decide) _ _ _ rfl (R4.out.1.alloc _) ⟨w3.heap.size, 0, none⟩ 1 1 [.int .i64 p, .int .i64 r] rfl rfl ?c1 ?c2 ?c3 ?c4 ?c5 ?_)
            case c1 => exact two_cells _ _ _ _ _ (by simp)
            case c2 => intro u hu; simp at hu; rcases hu with rfl | rfl <;> rfl
            case c3 => unfold maxLen; first | omega | (simp; omega)
            case c4 => first | omega | (simp; omega)
            case c5 => first | omega | (simp; omega)
            intro v' w4 hown' hgrow hnil
            obtain ⟨R1, R2', R3⟩ := put_mid D4.out A4.out R4.out hown' hgrow (fun e => hnil e)
            have RR : Hid (PutRel L x y w (k + 1) v' true w4) := Lib.hid ⟨_, R1, F.out, R2', R3⟩
            clear hown' hgrow hnil R1 R2' R3 F hE
            go_wp2_with fail
            go_roundw
            case rel => exact ⟨k + 1, true, by omega, by go_num, rfl, RR.out⟩
            case measure => simp [intOf]; omega
        · have hlt2 : ltB x y p r = false := by simpa using hlt2
          have sl := slt_any x y p r
          rw [hlt2] at sl
          have F := Lib.hid (put_miss (by rw [hn.out]; exact hlt) hc.out (show ltP (x, y) (p, r) = false from hlt2) hE.out)
          clear hlt2 h
          go_wp2_with fail
          go_region_with (go_at_call 43; (with_reducible refine (sl _).mono ?_); rintro e w2 ⟨rfl, B⟩; have D2 := Lib.hid (bstep (Below.drew hnx.out) B); have A2 := Lib.hid ((Below.block B _ hs).trans (show wr.drew.heap[w.heap.size]? = _ from hA.out)); have R2 := Lib.hid ((Row.up hR.out (Below.drew (Below.refl _ _))).up B); obtain ⟨x0, x1, _, _⟩ := blk2 A2.out; have q0 := cell_later B (show wr.drew.cell? _ = _ from q0); have q1 := cell_later B (show wr.drew.cell? _ = _ from q1); have hs := lt_of_heap A2.out; have sz := Below.size B; clear B hA hR hnx)
          all_goals
            go_wp2_with (at_builtin; refine wpList_append_own _ rfl _ _ 25 rfl (w.heap.size + 1) 31 i0 (.agg #[.int .i64 0, .int .i64 0]) 2 16 Try.underlying25 hi hz0 hz1 hz2 rfl (by decide) _ _ _ rfl (R2.out.1.alloc _) ⟨w2.heap.size, 0, none⟩ 1 1 [.int .i64 p, .int .i64 r] rfl rfl ?c1 ?c2 ?c3 ?c4 ?c5 ?_)
            case c1 => exact two_cells _ _ _ _ _ (by simp)
            case c2 => intro u hu; simp at hu; rcases hu with rfl | rfl <;> rfl
            case c3 => unfold maxLen; first | omega | (simp; omega)
            case c4 => first | omega | (simp; omega)
            case c5 => first | omega | (simp; omega)
            intro v' w4 hown' hgrow hnil
            obtain ⟨R1, R2', R3⟩ := put_mid D2.out A2.out R2.out hown' hgrow (fun e => hnil e)
            have RR : Hid (PutRel L x y w (k + 1) v' false w4) := Lib.hid ⟨_, R1, F.out, R2', R3⟩
            clear hown' hgrow hnil R1 R2' R3 F hE
            go_wp2_with fail
            go_roundw
            case rel => exact ⟨k + 1, false, by omega, by go_num, rfl, RR.out⟩
            case measure => simp [intOf]; omega
      · have F := Lib.hid (put_in (by rw [hn.out]; exact hlt) hc.out hE.out)
        clear h
        go_wp2_with fail
        go_quiet (fail)
        go_wp2_with (at_builtin; refine wpList_append_own _ rfl _ _ 25 rfl (w.heap.size + 1) 31 i0 (.agg #[.int .i64 0, .int .i64 0]) 2 16 Try.underlying25 hi hz0 hz1 hz2 rfl (by decide) _ _ _ rfl ((hR.out.up (bdrewN (Below.refl _ _) _)).1.alloc _) ⟨wr.heap.size, 0, none⟩ 1 1 [.int .i64 p, .int .i64 r] rfl rfl ?c1 ?c2 ?c3 ?c4 ?c5 ?_)
        case c1 => exact two_cells _ _ _ _ _ (by simp)
        case c2 => intro u hu; simp at hu; rcases hu with rfl | rfl <;> rfl
        case c3 => unfold maxLen; first | omega | (simp; omega)
        case c4 => first | omega | (simp; omega)
        case c5 => first | omega | (simp; omega)
        intro v' w4 hown' hgrow hnil
        obtain ⟨R1, R2', R3⟩ := put_mid (bdrewN hnx.out _) (show (wr.drewN _).heap[w.heap.size]? = _ from hA.out) (hR.out.up (bdrewN (Below.refl _ _) _)) hown' hgrow (fun e => hnil e)
        have RR : Hid (PutRel L x y w (k + 1) v' true w4) := Lib.hid ⟨_, R1, F.out, R2', R3⟩
        clear hR hA hnx hown' hgrow hnil R1 R2' R3 F hE
        go_wp2_with fail
        go_roundw
        case rel => exact ⟨k + 1, true, by omega, by go_num, rfl, RR.out⟩
        case measure => simp [intOf]; omega
    · obtain rfl : k = n := by omega
      have hdr : L.drop k = [] := List.drop_eq_nil_of_le (by rw [hn.out]; exact Nat.le_refl _)
      have hE2 := hE.out
      rw [hdr] at hE2
      have hE2 := Lib.hid hE2
      have hnx := Lib.hid hnx
      clear h hE hdr
      cases q
      · skip
        go_wp2_with (at_builtin; refine wpList_append_own _ rfl _ _ 25 rfl (w.heap.size + 1) 31 i0 (.agg #[.int .i64 0, .int .i64 0]) 2 16 Try.underlying25 hi hz0 hz1 hz2 rfl (by decide) _ _ _ rfl (hR.out.1.alloc _) ⟨wr.heap.size, 0, none⟩ 1 1 [.int .i64 x, .int .i64 y] rfl rfl ?c1 ?c2 ?c3 ?c4 ?c5 ?_)
        case c1 => exact two_cells _ _ _ _ _ (by simp)
        case c2 => intro u hu; simp at hu; rcases hu with rfl | rfl <;> rfl
        case c3 => unfold maxLen; first | omega | (simp; omega)
        case c4 => first | omega | (simp; omega)
        case c5 => first | omega | (simp; omega)
        intro v' w4 hown' hgrow hnil
        obtain ⟨R1, R2', R3⟩ := put_mid hnx.out hA.out hR.out hown' hgrow (fun e => hnil e)
        obtain ⟨g, hg, hO⟩ := R1.own (by simp; omega)
        rw [show O ++ [(x, y)] = putP L (x, y) from hE2.out] at hO
        have hO := Lib.hid hO
        have D4 := Lib.hid R3
        clear hown' hgrow hnil R1 R2' R3 hR hA hnx
        go_wp2_with fail
        go_ret
        exact ⟨g, _, by omega, rfl, hO.out, D4.out⟩
      · obtain ⟨g, hg, hO⟩ := hR.out.own (by omega)
        rw [show O = putP L (x, y) from (List.append_nil O).symm.trans hE2.out] at hO
        have hO := Lib.hid hO
        clear hR hA
        go_wp2_with fail
        go_ret
        exact ⟨g, _, by omega, rfl, hO.out, hnx.out⟩

theorem Row.parts {w : World} {B g n cap : Nat} {O : List Pid} (h : Row w B (.slice (some ⟨g, 0, none⟩) n cap) O) : ∃ cur, w.heap[g]? = some (.cells cur 31 (0, 0)) ∧ cur.size = cap * 2 ∧ O.length = n ∧ (∀ j, j < cap * 2 → (w.cell? ⟨g, j, none⟩).isSome = true) ∧ (∀ j, w.frozen? ⟨g, j, none⟩ = false) ∧ (∀ j, j < n * 2 → w.cell? ⟨g, j, none⟩ = (flatP O)[j]?) := by
  rcases h.1.2 with ⟨e, _⟩ | ⟨g', cap', cur, e, h1, h2, h3, h4, h5, h6⟩
  · exact absurd e h.2
  · injection e with e1 e2 e3
    injection e1 with e1
    injection e1 with e1
    subst e1 e2 e3
    refine ⟨cur, h2, h5, rfl, fun j hj => ?_, fun j => by simp [World.frozen?, h2], fun j hj => ?_⟩
    · rw [cell_of_cells h2, Array.getElem?_eq_getElem (by omega)]; rfl
    · rw [cell_of_cells h2, ← h6, List.getElem?_take, if_pos hj]; simp
end Go.Proofs.Ytbklkhndjckckaa
