/- Texts laid together. -/
import Derived.Test.YtbklkhndjckckaaC09
import Derived.Test.YtbklkhndjckckaaC06
import Derived.Deep.RegionWith
import Derived.Test.YtbklkhndjckckaaC04
import Derived.Test.YtbklkhndjckckaaC03
/- Plain facts: places in lists; orders of fewer nodes; orders of nodes that depend on nothing. -/
namespace Go.Proofs.Ytbklkhndjckckaa
set_option linter.unusedVariables false

/-- The place of an id, or -1. -/
def PlP (L : List Pid) (a : Pid) (z : Int) : Prop := (z = -1 ∧ ¬ a ∈ L) ∨ ∃ k : Nat, z = k ∧ k < L.length ∧ L.getD k nop = a ∧ ∀ j, j < k → ¬ L.getD j nop = a
theorem getD_memL {L : List Pid} {j : Nat} (hj : j < L.length) : L.getD j nop ∈ L := by
  rw [List.getD_eq_getElem?_getD, List.getElem?_eq_getElem hj]; exact List.getElem_mem hj
theorem PlP.none {L : List Pid} {a : Pid} (h : ∀ j, j < L.length → ¬ L.getD j nop = a) : PlP L a (-1) := by
  refine .inl ⟨rfl, fun hm => ?_⟩
  obtain ⟨k, hk, e⟩ := List.getElem_of_mem hm
  exact h k hk (by rw [List.getD_eq_getElem?_getD, List.getElem?_eq_getElem hk]; exact e)
theorem PlP.le {L : List Pid} {a : Pid} {z : Int} (h : PlP L a z) {i : Nat} (hi : i < L.length) (e : L.getD i nop = a) : z ≤ i := by
  rcases h with ⟨h, _⟩ | ⟨k, h, _, _, hf⟩
  · omega
  · rcases Nat.lt_or_ge i k with hl | hl
    · exact absurd e (hf i hl)
    · omega
theorem PlP.get {L : List Pid} {a : Pid} {z : Int} (h : PlP L a z) (ha : a ∈ L) : ∃ k : Nat, z = k ∧ k < L.length ∧ L.getD k nop = a := by
  rcases h with ⟨_, h⟩ | ⟨k, h, h1, h2, _⟩
  · exact absurd ha h
  · exact ⟨k, h, h1, h2⟩
theorem pw_getD {R : Pid → Pid → Prop} {L : List Pid} (h : L.Pairwise R) {i j : Nat} (hij : i < j) (hj : j < L.length) : R (L.getD i nop) (L.getD j nop) := by
  have := List.pairwise_iff_getElem.1 h i j (by omega) hj hij
  rw [List.getD_eq_getElem?_getD, List.getD_eq_getElem?_getD, List.getElem?_eq_getElem hj, List.getElem?_eq_getElem (show i < L.length by omega)]
  exact this
theorem nodup_ne {L : List Pid} (h : L.Nodup) {i j : Nat} (hi : i < L.length) (hj : j < L.length) (e : L.getD i nop = L.getD j nop) : i = j := by
  rcases Nat.lt_trichotomy i j with hl | hl | hl
  · exact absurd e (pw_getD h hl hj)
  · exact hl
  · exact absurd e.symm (pw_getD h hl hi)
/-- In a list without doubles places ascend. -/
theorem pl_pw {L : List Pid} (h : L.Nodup) : L.Pairwise fun a b => ∀ x y, PlP L a x → PlP L b y → x ≤ y := by
  refine List.pairwise_iff_getElem.2 fun i j hi hj hij x y hx hy => ?_
  have ei : L.getD i nop = L[i] := by rw [List.getD_eq_getElem?_getD, List.getElem?_eq_getElem hi]; rfl
  have ej : L.getD j nop = L[j] := by rw [List.getD_eq_getElem?_getD, List.getElem?_eq_getElem hj]; rfl
  have h1 := hx.le hi ei
  obtain ⟨k, rfl, hk, e⟩ := hy.get (List.getElem_mem hj)
  have := nodup_ne h hk hj (e.trans ej.symm)
  omega

/-- N' is N without some nodes. -/
structure Few (N' N : List Nd) : Prop where
  v' : nodB N' = true
  v : nodB N = true
  sub : ∀ x ∈ N', x ∈ N
section
variable {N' N : List Nd}
theorem Few.ids (h : Few N' N) {a : Pid} (ha : a ∈ idsN N') : a ∈ idsN N := by
  obtain ⟨x, hx, rfl⟩ := List.mem_map.1 ha
  exact List.mem_map_of_mem (h.sub x hx)
theorem Few.edge (h : Few N' N) {a b : Pid} (e : EI N' a b) : EI N a b := by
  obtain ⟨h1, x, hx, h2, h3⟩ := e
  exact ⟨h.ids h1, x, h.sub x hx, h2, h3⟩
theorem Few.edge' (h : Few N' N) {a b : Pid} (ha : a ∈ idsN N') (hr : RdI N' a) (e : EI N a b) : EI N' a b := by
  obtain ⟨x, hx, rfl⟩ := List.mem_map.1 ha
  obtain ⟨_, y, hy, h2, h3⟩ := e
  have := getD_uniq h.v hy (h.sub x hx) h2
  subst this
  exact ⟨hr _ (.refl _) _ hx rfl b h3, _, hx, rfl, h3⟩
theorem Few.rt (h : Few N' N) {a b : Pid} (e : Rt (EI N') a b) : Rt (EI N) a b := by
  induction e with
  | refl => exact .refl _
  | head e _ ih => exact .head (h.edge e) ih
theorem Few.rt' (h : Few N' N) {a b : Pid} (e : Rt (EI N) a b) : a ∈ idsN N' → RdI N' a → Rt (EI N') a b := by
  induction e with
  | refl => intro _ _; exact .refl _
  | head e _ ih =>
    intro ha hr
    have e' := h.edge' ha hr e
    exact .head e' (ih e'.r (hr.on (.one e')))
theorem Few.rp (h : Few N' N) {a b : Pid} (ha : a ∈ idsN N') (hr : RdI N' a) : Rp (EI N') a b ↔ Rp (EI N) a b := by
  constructor
  · rintro ⟨c, h1, h2⟩; exact ⟨c, h.edge h1, h.rt h2⟩
  · rintro ⟨c, h1, h2⟩
    have e' := h.edge' ha hr h1
    exact ⟨c, e', h.rt' h2 e'.r (hr.on (.one e'))⟩
theorem Few.sc (h : Few N' N) {a b : Pid} (ha : a ∈ idsN N') (hr : RdI N' a) : Sc (EI N') a b ↔ Sc (EI N) a b := by
  constructor
  · rintro ⟨h1, h2⟩; exact ⟨h.rt h1, h.rt h2⟩
  · rintro ⟨h1, h2⟩
    have h1' := h.rt' h1 ha hr
    exact ⟨h1', h.rt' h2 (rt_in h1' ha) (hr.on h1')⟩
theorem Few.rdy (h : Few N' N) {a : Pid} (ha : a ∈ idsN N') (hr : RdI N' a) : RdI N a := by
  intro b hb x hx e d hd
  have hb' := h.rt' hb ha hr
  have hbi := rt_in hb' ha
  obtain ⟨y, hy, hye⟩ := List.mem_map.1 hbi
  have := getD_uniq h.v hx (h.sub y hy) (e.trans hye.symm)
  subst this
  exact h.ids (hr b hb' _ hy e d hd)
theorem Few.seq (h : Few N' N) {a : Pid} (ha : a ∈ idsN N') : seqP N' a = seqP N a := by
  obtain ⟨x, hx, rfl⟩ := List.mem_map.1 ha
  rw [seqP_of h.v' hx, seqP_of h.v (h.sub x hx)]
theorem Few.soon (h : Few N' N) {a b : Pid} (ha : a ∈ idsN N') (hb : b ∈ idsN N') : Soon N' a b ↔ Soon N a b := by
  unfold Soon; rw [h.seq ha, h.seq hb]
/-- What is ready with fewer nodes runs in the same order. -/
theorem Few.order (h : Few N' N) {R : Pid → Prop} {L : List Pid} (o : Ord N R L) (hc : Clo N R) : ∀ {R' : Pid → Prop} {L' : List Pid}, Ord N' R' L' → (∀ a, a ∈ idsN N' → RdI N' a → (R' a ↔ R a)) → L'.Sublist L := by
  -- which are free
  have fr : ∀ {R R' : Pid → Prop}, (∀ a, a ∈ idsN N' → RdI N' a → (R' a ↔ R a)) → ∀ a, a ∈ idsN N' → RdI N' a → (FreeI N' R' a ↔ FreeI N R a) := by
    intro R R' hR a ha hr
    constructor
    · rintro ⟨_, h2, _, h4⟩
      refine ⟨h.ids ha, fun hh => h2 ((hR a ha hr).2 hh), h.rdy ha hr, fun b hb => ?_⟩
      have hb' := (h.rp ha hr).2 hb
      exact (h4 b hb').imp (hR b (rp_r hb') (hr.on hb'.rt)).1 (h.sc ha hr).1
    · rintro ⟨_, h2, _, h4⟩
      refine ⟨ha, fun hh => h2 ((hR a ha hr).1 hh), hr, fun b hb' => ?_⟩
      exact (h4 b ((h.rp ha hr).1 hb')).imp (hR b (rp_r hb') (hr.on hb'.rt)).2 (h.sc ha hr).2
  induction o with
  | stop R hs =>
    intro R' L' o' hR
    cases o' with
    | stop => exact List.Sublist.slnil
    | run _ a M L hi => exact absurd ((fr hR a hi.1 hi.2.2.1).1 hi) (hs a)
  | run R a M L hi hf hM hs t ih =>
    intro R' L' o' hR
    have hc' := hi.clo hM hc
    by_cases ha : a ∈ idsN N' ∧ RdI N' a
    · obtain ⟨ha, hr⟩ := ha
      have hi' := (fr hR a ha hr).2 hi
      cases o' with
      | stop _ hs' => exact absurd hi' (hs' a)
      | run _ a2 M2 L2 hi2 hf2 hM2 hs2 t2 =>
        have e : a2 = a := by
          rcases hf a2 ((fr hR a2 hi2.1 hi2.2.2.1).1 hi2) with e | e
          · exact e
          · rcases hf2 a hi' with e2 | e2
            · exact e2.symm
            · exact absurd ((h.soon ha hi2.1).2 e) e2.asym
        subst e
        have em : M2 = M := by
          refine soon_ext (N := N) (List.Pairwise.imp_of_mem (fun {x y} hx hy hxy => ?_) hs2) hs fun x => by rw [hM2, hM, h.sc ha hr]
          exact (h.soon (sc_in ((hM2 x).1 hx) ha) (sc_in ((hM2 y).1 hy) ha)).1 hxy
        subst em
        refine List.Sublist.append (List.Sublist.refl _) (ih hc' t2 fun b hb hbr => ?_)
        exact or_congr (hR b hb hbr) Iff.rfl
    · refine List.Sublist.trans (ih hc' o' fun b hb hbr => ?_) (List.sublist_append_right M L)
      rw [hR b hb hbr]
      constructor
      · exact .inl
      · rintro (hh | hh)
        · exact hh
        · have hsc := ((hM b).1 hh).symm
          have := (h.sc hb hbr).2 hsc
          exact absurd ⟨rt_in this.1 hb, hbr.on this.1⟩ ha
end
/-- Orders of nodes, and of fewer of them. -/
theorem less_pl {N' N : List Nd} (h : Few N' N) {L L' : List Pid} (o : Ord N (fun _ => False) L) (o' : Ord N' (fun _ => False) L') : L'.Pairwise fun a b => ∀ x y, PlP L a x → PlP L b y → x ≤ y :=
  List.Pairwise.sublist (h.order o (clo_none N) o' fun _ _ _ => Iff.rfl) (pl_pw (o.nodup (clo_none N)))

/-- Without anything to wait for. -/
theorem bare_rt {N : List Nd} (h : ∀ x ∈ N, x.deps = []) {a b : Pid} (e : Rt (EI N) a b) : a = b := by
  cases e with
  | refl => rfl
  | head e _ =>
    obtain ⟨_, x, hx, _, hd⟩ := e
    rw [h x hx] at hd; cases hd
theorem bare_order {N : List Nd} (h : ∀ x ∈ N, x.deps = []) {R : Pid → Prop} {L : List Pid} (o : Ord N R L) (hc : Clo N R) : L.Pairwise (Soon N) := by
  induction o with
  | stop => exact List.Pairwise.nil
  | run R a M L hi hf hM hs t ih =>
    have hc' := hi.clo hM hc
    have hMa : ∀ b, b ∈ M → b = a := fun b hb => (bare_rt h ((hM b).1 hb).1).symm
    refine List.pairwise_append.2 ⟨hs, ih hc', fun x hx y hy => ?_⟩
    rw [hMa x hx]
    have hm := (t.mem hc' y).1 hy
    have hy' : FreeI N R y := ⟨hm.1, fun hh => hm.2.2 (.inl hh), hm.2.1, fun b hb => .inr (by rw [bare_rt h hb.rt]; exact .refl _)⟩
    rcases hf y hy' with e | e
    · subst e; exact absurd (.inr ((hM _).2 (.refl _))) hm.2.2
    · exact e
theorem bare_rdy {N : List Nd} (h : ∀ x ∈ N, x.deps = []) (a : Pid) : RdI N a := fun b _ x hx _ d hd => by rw [h x hx] at hd; cases hd
theorem bare_pl {N : List Nd} (h : ∀ x ∈ N, x.deps = []) {L : List Pid} (o : Ord N (fun _ => False) L) {a b : Pid} (ha : a ∈ idsN N) (hb : b ∈ idsN N) (hs : Soon N a b) {x y : Int} (hx : PlP L a x) (hy : PlP L b y) : x ≤ y := by
  have hp := bare_order h o (clo_none N)
  have inL : ∀ c, c ∈ idsN N → c ∈ L := fun c hc => (o.mem (clo_none N) c).2 ⟨hc, bare_rdy h c, id⟩
  obtain ⟨i, rfl, hi, ei⟩ := hx.get (inL a ha)
  obtain ⟨j, rfl, hj, ej⟩ := hy.get (inL b hb)
  rcases Nat.lt_or_ge j i with hl | hl
  · have := pw_getD hp hl hi
    rw [ei, ej] at this
    exact absurd hs this.asym
  · omega
theorem bare_len {N : List Nd} (hv : nodB N = true) (h : ∀ x ∈ N, x.deps = []) {L : List Pid} (o : Ord N (fun _ => False) L) : L.length = N.length := by
  rw [← idsN_len]
  have hn : (idsN N).Nodup := List.Pairwise.imp (fun {a b} hab e => by subst e; rw [ltP_irr] at hab; cases hab) (nod_of hv).2.2
  exact Nat.le_antisymm (nodup_len (o.nodup (clo_none N)) fun x hx => ((o.mem (clo_none N) x).1 hx).1) (nodup_len hn fun x hx => (o.mem (clo_none N) x).2 ⟨hx, bare_rdy h x, id⟩)
end Go.Proofs.Ytbklkhndjckckaa

/- The laws' placeOf. -/
namespace Go.Proofs.Ytbklkhndjckckaa
open Go.RowKit
set_option linter.unusedVariables false

set_option maxRecDepth 100000 in
set_option maxHeartbeats 2000000 in
theorem lpl_at (b off ca : Nat) (L : List Pid) (x y : Int) (w : World) (hb : b < w.heap.size) (hm : L.length ≤ 2000000) (h : ∀ i, i < L.length → w.cell? ⟨b, off + i * 2, none⟩ = some (.int .i64 (L.getD i nop).1) ∧ w.cell? ⟨b, off + i * 2 + 1, none⟩ = some (.int .i64 (L.getD i nop).2)) :
    Calls Try.prog 17 #[.slice (some ⟨b, off, none⟩) L.length ca, .agg #[.int .i64 x, .int .i64 y]] w fun e w' => (∃ z : Int, e = .returned (.int .i64 z) ∧ PlP L (x, y) z) ∧ Below w.heap.size w w' := by
  have h := Lib.hid h
  obtain ⟨n, hn⟩ : ∃ n, Hid (L.length = n) := ⟨_, Lib.hid rfl⟩
  rw [hn.out] at hm ⊢
  go_enter Try.func17, Try.ntmps17
  go_wp2_with fail
  go_loopw [5] (fun i wr => ∃ k : Nat, k ≤ n ∧ i = .int .i64 k ∧ Hid (∀ j, j < k → ¬ L.getD j nop = (x, y)) ∧ wr.cell? ⟨w.heap.size, 0, none⟩ = some (.int .i64 x) ∧ wr.cell? ⟨w.heap.size, 1, none⟩ = some (.int .i64 y) ∧ Below w.heap.size w wr) (fun i _ => n - (intOf i).toNat)
  case atStart => exact ⟨0, Nat.zero_le _, rfl, Lib.hid (fun j hj => absurd hj (Nat.not_lt_zero _)), by go_simp, by go_simp, (Below.refl _ _).alloc (Nat.le_refl _) _⟩
  case round =>
    obtain ⟨k, hk, rfl, hno, x0, x1, hnx⟩ := hrel
    by_cases hlt : k < n
    · obtain ⟨h0, h1⟩ := h.out k (by rw [hn.out]; exact hlt)
      have q0 := (hnx.cell (p := ⟨b, off + k * 2, none⟩) hb).trans h0
      have q1 := (hnx.cell (p := ⟨b, off + k * 2 + 1, none⟩) hb).trans h1
      clear h0 h1
      obtain ⟨c, hc⟩ : ∃ c, Hid (L.getD k nop = c) := ⟨_, Lib.hid rfl⟩
      rw [hc.out] at q0 q1
      obtain ⟨p, r⟩ := c
      dsimp only at q0 q1
      have hnx := Lib.hid hnx
      clear h
      by_cases e1 : p = x
      · subst e1
        by_cases e2 : r = y
        · subst e2
          have R := Lib.hid (show PlP L (p, r) k from .inr ⟨k, rfl, by rw [hn.out]; exact hlt, hc.out, hno.out⟩)
          go_wp2_with fail
          go_quiet (fail)
          go_wp2_with fail
          go_ret
          exact ⟨⟨_, rfl, R.out⟩, bdrewN hnx.out _⟩
        · have R := Lib.hid (up_to hno.out (show ¬ L.getD k nop = (p, y) by rw [hc.out]; intro e; exact e2 (congrArg Prod.snd e)))
          go_wp2_with fail
          go_quiet (fail)
          go_wp2_with fail
          go_roundw
          case rel => exact ⟨k + 1, by omega, by go_num, R, by go_simp, by go_simp, bdrewN hnx.out _⟩
          case measure => simp [intOf]; omega
      · have R := Lib.hid (up_to hno.out (show ¬ L.getD k nop = (x, y) by rw [hc.out]; intro e; exact e1 (congrArg Prod.fst e)))
        go_wp2_with fail
        go_quiet (fail)
        go_wp2_with fail
        go_roundw
        case rel => exact ⟨k + 1, by omega, by go_num, R, by go_simp, by go_simp, bdrewN hnx.out _⟩
        case measure => simp [intOf]; omega
    · obtain rfl : k = n := by omega
      have R := Lib.hid (PlP.none (L := L) (a := (x, y)) (fun j hj => hno.out j (by rw [← hn.out]; exact hj)))
      have hnx := Lib.hid hnx
      clear h
      go_wp2_with fail
      go_ret
      exact ⟨⟨_, rfl, R.out⟩, hnx.out⟩

theorem lpl_nil (a : Option Addr) (ca : Nat) (x y : Int) (w : World) :
    Calls Try.prog 17 #[.slice a 0 ca, .agg #[.int .i64 x, .int .i64 y]] w fun e w' => (∃ z : Int, e = .returned (.int .i64 z) ∧ PlP [] (x, y) z) ∧ Below w.heap.size w w' := by
  go_enter Try.func17, Try.ntmps17
  go_wp2_with fail
  refine wp_loop_rounds 1 ?_
  rw [rounds_succ]
  go_wp2_with fail
  go_ret
  exact ⟨⟨-1, rfl, .inl ⟨rfl, by simp⟩⟩, (Below.refl _ _).alloc (Nat.le_refl _) _⟩

theorem lpl_any (u : Value) (L : List Pid) (x y : Int) (w : World) (h : Ids w u L) :
    Calls Try.prog 17 #[u, .agg #[.int .i64 x, .int .i64 y]] w fun e w' => (∃ z : Int, e = .returned (.int .i64 z) ∧ PlP L (x, y) z) ∧ Below w.heap.size w w' := by
  obtain ⟨a, cap, rfl, h1, h2, h3⟩ := h
  rcases h3 with h3 | ⟨b, off, rfl, h4, h5⟩
  · obtain rfl : L = [] := List.length_eq_zero_iff.1 h3
    exact lpl_nil a cap x y w
  · exact lpl_at b off cap L x y w h4 h2 h5
end Go.Proofs.Ytbklkhndjckckaa

/- IdBefore of the program (cut out of Idw, for seats without the model's and without IdValid: keep them alike). -/
namespace Go.Proofs.Ytbklkhndjckckaa
open Go.RowKit
set_option linter.unusedVariables false

/-- What IdBefore answers. -/
def befB (r n r' n' : Int) : Bool := idB r n && idB r' n' && ltB r n r' n'

theorem ibef_any (r n r' n' : Int) (w : World) :
    Calls Try.prog 20 #[.agg #[.int .i64 r, .int .i64 n], .agg #[.int .i64 r', .int .i64 n']] w fun e w' => e = .returned (.bool (befB r n r' n')) ∧ Below w.heap.size w w' := by
  have s1 := ivid_any r n
  have s2 := ivid_any r' n'
  have s3 := cmpI_any r n r' n'
  have e3 := cmpI_neg r n r' n'
  unfold befB
  rw [← e3]
  clear e3
  generalize idB r n = p at s1 ⊢
  generalize idB r' n' = q at s2 ⊢
  generalize cmpI r n r' n' = x at s3 ⊢
  have T0 := Lib.hid (Two.start w r n r' n')
  cases p
  · go_enter Try.func20, Try.ntmps20
    go_wp2_with fail
    refine (s1 _).mono ?_
    rintro e w1 ⟨rfl, hb⟩
    have T1 := Lib.hid (T0.out.up hb)
    clear hb
    go_wp2_with fail
    go_ret
    exact ⟨rfl, T1.out.d⟩
  · cases q
    · go_enter Try.func20, Try.ntmps20
      go_wp2_with fail
      refine (s1 _).mono ?_
      rintro e w1 ⟨rfl, hb⟩
      have T1 := T0.out.up hb
      obtain ⟨a0, a1, _, _⟩ := blk2 T1.a
      obtain ⟨b0, b1, _, _⟩ := blk2 T1.b
      have z1 := T1.z
      have T1 := Lib.hid T1
      clear hb
      go_wp2_with fail
      refine (s2 _).mono ?_
      rintro e w2 ⟨rfl, hb⟩
      have T2 := Lib.hid (T1.out.up hb)
      clear hb
      go_wp2_with fail
      go_ret
      exact ⟨rfl, T2.out.d⟩
    · go_enter Try.func20, Try.ntmps20
      go_wp2_with fail
      refine (s1 _).mono ?_
      rintro e w1 ⟨rfl, hb⟩
      have T1 := T0.out.up hb
      obtain ⟨a0, a1, _, _⟩ := blk2 T1.a
      obtain ⟨b0, b1, _, _⟩ := blk2 T1.b
      have z1 := T1.z
      have T1 := Lib.hid T1
      clear hb
      go_wp2_with fail
      refine (s2 _).mono ?_
      rintro e w2 ⟨rfl, hb⟩
      have T2 := T1.out.up hb
      clear hb a0 a1 b0 b1
      obtain ⟨a0, a1, _, _⟩ := blk2 T2.a
      obtain ⟨b0, b1, _, _⟩ := blk2 T2.b
      have z2 := T2.z
      have T2 := Lib.hid T2
      go_wp2_with fail
      refine (s3 _).mono ?_
      rintro e w3 ⟨rfl, hb⟩
      have T3 := Lib.hid (T2.out.up hb)
      clear hb
      go_wp2_with fail
      go_ret
      exact ⟨by simp, T3.out.d⟩
end Go.Proofs.Ytbklkhndjckckaa
