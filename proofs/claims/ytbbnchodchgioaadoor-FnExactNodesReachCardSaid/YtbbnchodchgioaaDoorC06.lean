/- Texts laid together. -/
import Derived.Test.YtbbnchodchgioaaDoorC02
import Derived.Test.YtbbnchodchgioaaDoorC01
import Derived.Deep.AppendSrc
/- Plain facts: places of nodes, and what a group has. -/
namespace Go.Proofs.YtbbnchodchgioaaDoor
set_option linter.unusedVariables false

/-- The node at a place depends on the one at another place. -/
def EN (N : List Nd) (i j : Nat) : Prop := i < N.length ∧ j < N.length ∧ (N.getD j nd0).id ∈ (N.getD i nd0).deps
theorem en_ei {N : List Nd} (h : nodB N = true) {i j : Nat} (hi : i < N.length) (hj : j < N.length) : EN N i j ↔ EI N (N.getD i nd0).id (N.getD j nd0).id := by
  constructor
  · rintro ⟨_, _, h3⟩
    exact ⟨List.mem_map_of_mem (getD_mem hj), _, getD_mem hi, rfl, h3⟩
  · rintro ⟨_, x, hx, e, hd⟩
    rw [getD_uniq h hx (getD_mem hi) e] at hd
    exact ⟨hi, hj, hd⟩
theorem rt_lt {N : List Nd} {i j : Nat} (g : Rt (EN N) i j) (hi : i < N.length) : j < N.length := g.closed (P := fun j => j < N.length) (fun _ _ _ e => e.2.1) hi
theorem en_rt {N : List Nd} (h : nodB N = true) {i j : Nat} (g : Rt (EN N) i j) : Rt (EI N) (N.getD i nd0).id (N.getD j nd0).id := by
  induction g with
  | refl => exact .refl _
  | head e _ ih => exact .head ((en_ei h e.1 e.2.1).1 e) ih
theorem rt_en {N : List Nd} (h : nodB N = true) {a b : Pid} (g : Rt (EI N) a b) : ∀ i, i < N.length → (N.getD i nd0).id = a → ∃ j, j < N.length ∧ (N.getD j nd0).id = b ∧ Rt (EN N) i j := by
  induction g with
  | refl a => intro i hi e; exact ⟨i, hi, e, .refl _⟩
  | head e _ ih =>
    intro i hi hia
    obtain ⟨k, hk, rfl⟩ := mem_idsN.1 e.r
    obtain ⟨j, hj, hjb, hr⟩ := ih k hk rfl
    subst hia
    exact ⟨j, hj, hjb, .head ((en_ei h hi hk).2 e) hr⟩
theorem rt_iff {N : List Nd} (h : nodB N = true) {i j : Nat} (hi : i < N.length) (hj : j < N.length) : Rt (EN N) i j ↔ Rt (EI N) (N.getD i nd0).id (N.getD j nd0).id := by
  refine ⟨en_rt h, fun g => ?_⟩
  obtain ⟨k, hk, e, hr⟩ := rt_en h g i hi rfl
  rw [← nod_inj h hk hj e]; exact hr
theorem sc_iff {N : List Nd} (h : nodB N = true) {i j : Nat} (hi : i < N.length) (hj : j < N.length) : Sc (EN N) i j ↔ Sc (EI N) (N.getD i nd0).id (N.getD j nd0).id := by
  unfold Sc; rw [rt_iff h hi hj, rt_iff h hj hi]

/-- A set of bits has the ids with a property. -/
structure Bits (f : Nat → Nat) (P : Pid → Prop) : Prop where
  bit : ∀ r n : Nat, r < 5 → ((f r).testBit n = true ↔ P ((r : Int), (n : Int)))
  ok : ∀ x, P x → okP x = true
theorem Bits.lt {f : Nat → Nat} {P : Pid → Prop} (h : Bits f P) {r : Nat} (hr : r < 5) : f r < 2251799813685248 := by
  refine Nat.lt_pow_two_of_testBit (n := 51) _ fun i hi => ?_
  cases e : (f r).testBit i with
  | false => rfl
  | true =>
    have := okP_of (h.ok _ ((h.bit r i hr).1 e))
    dsimp only at this
    omega
theorem Bits.zero : Bits (fun _ => 0) (fun _ => False) := ⟨fun r n _ => by simp, fun _ h => h.elim⟩
theorem Bits.ext {f : Nat → Nat} {P Q : Pid → Prop} (h : Bits f P) (e : ∀ x, P x ↔ Q x) : Bits f Q := ⟨fun r n hr => (h.bit r n hr).trans (e _), fun x hx => h.ok x ((e x).2 hx)⟩
/-- An id more. -/
def addF (f : Nat → Nat) (a : Pid) : Nat → Nat := fun r => if a.1 = (r : Int) then f r ||| 2 ^ a.2.toNat else f r
theorem Bits.add {f : Nat → Nat} {P : Pid → Prop} (h : Bits f P) {a : Pid} (ha : okP a = true) : Bits (addF f a) (fun x => P x ∨ x = a) := by
  refine ⟨fun r n hr => ?_, fun x hx => hx.elim (h.ok x) (fun e => by rw [e]; exact ha)⟩
  obtain ⟨r', n', rfl, _⟩ := id_nat ha
  unfold addF
  by_cases e : r' = r
  · subst e
    simp only [if_true, Nat.testBit_or, Bool.or_eq_true, Nat.testBit_two_pow, decide_eq_true_eq, Int.toNat_natCast, h.bit r' n hr, Prod.mk.injEq, true_and, Int.ofNat_inj]
    exact or_congr Iff.rfl eq_comm
  · have : ¬ ((r' : Int) = (r : Int)) := by omega
    simp only [if_neg this, h.bit r n hr, Prod.mk.injEq]
    constructor
    · exact .inl
    · rintro (hh | ⟨e1, _⟩)
      · exact hh
      · exact absurd (by omega) e
theorem Bits.join {f g : Nat → Nat} {P Q : Pid → Prop} (h : Bits f P) (k : Bits g Q) : Bits (fun r => f r ||| g r) (fun x => P x ∨ Q x) :=
  ⟨fun r n hr => by rw [Nat.testBit_or, Bool.or_eq_true, h.bit r n hr, k.bit r n hr], fun x hx => hx.elim (h.ok x) (k.ok x)⟩
theorem Bits.within {f g : Nat → Nat} {P Q : Pid → Prop} (h : Bits f P) (k : Bits g Q) : (∀ r, r < 5 → f r ||| g r = g r) ↔ ∀ x, P x → Q x := by
  constructor
  · intro e x hx
    obtain ⟨r, n, rfl, hr, _⟩ := id_nat (h.ok x hx)
    rw [← k.bit r n hr, ← e r hr, Nat.testBit_or, (h.bit r n hr).2 hx]; rfl
  · intro e r hr
    apply Nat.eq_of_testBit_eq
    intro n
    rw [Nat.testBit_or]
    cases hb : (f r).testBit n with
    | false => rfl
    | true => rw [(k.bit r n hr).2 (e _ ((h.bit r n hr).1 hb))]; rfl
theorem Bits.mem {f : Nat → Nat} {P : Pid → Prop} (h : Bits f P) {x : Pid} : x ∈ idsO f ↔ P x := by
  rw [mem_idsO]
  constructor
  · rintro ⟨r, n, rfl, hr, _, hb⟩; exact (h.bit r n hr).1 hb
  · intro hx
    obtain ⟨r, n, rfl, hr, hn, hn2⟩ := id_nat (h.ok x hx)
    exact ⟨r, n, rfl, hr, by omega, (h.bit r n hr).2 hx⟩
theorem Bits.has {f : Nat → Nat} {P : Pid → Prop} (h : Bits f P) {r n : Nat} (hr : r < 5) : (f r).testBit n = true ↔ P ((r : Int), (n : Int)) := h.bit r n hr

theorem nod_okI {N : List Nd} (h : nodB N = true) {a : Pid} (ha : a ∈ idsN N) : okP a = true := by
  obtain ⟨x, hx, rfl⟩ := List.mem_map.1 ha
  have := (nod_of h).2.1 x hx
  simp only [ndB, Bool.and_eq_true] at this
  exact this.1

/-- What a group reaches: P are the ids so far. -/
theorem gat_reach {N : List Nd} (h : nodB N = true) {S : Pid → Prop} (hS : ∀ a b, S a → (S b ↔ Sc (EI N) a b)) {P : Pid → Prop}
    (hs : ∀ x, P x → ∃ a, S a ∧ Rp (EI N) a x) (hd : ∀ a, S a → ∀ b, EI N a b → P b ∧ (¬ S b → ∀ x, Rp (EI N) b x → P x)) {a : Pid} (ha : S a) (x : Pid) : P x ↔ Rp (EI N) a x := by
  constructor
  · intro hx
    obtain ⟨b, hb, hr⟩ := hs x hx
    exact ((hS a b ha).1 hb).1.rp hr
  · rintro ⟨b, hb, hr⟩
    induction hr generalizing a with
    | refl b => exact (hd a ha b hb).1
    | head e t ih =>
      rename_i p q r
      by_cases hp : S p
      · exact ih hp e
      · exact (hd a ha p hb).2 hp _ ⟨_, e, t⟩
/-- Whether a group is ready. -/
theorem gat_ready {N : List Nd} {S : Pid → Prop} (hS : ∀ a b, S a → (S b ↔ Sc (EI N) a b)) {a : Pid} (ha : S a) :
    RdI N a ↔ ∀ b, S b → OkI N b ∧ ∀ c, EI N b c → ¬ S c → RdI N c := by
  constructor
  · intro hr b hb
    have h1 := ((hS a b ha).1 hb).1
    exact ⟨hr b h1, fun c hc _ => hr.on (h1.trans (.one hc))⟩
  · intro hh b hr
    induction hr with
    | refl a => exact (hh a ha).1
    | head e t ih =>
      rename_i p q r
      by_cases hq : S q
      · exact ih hq
      · exact (hh p ha).2 q e hq r t
end Go.Proofs.YtbbnchodchgioaaDoor

/- Memory that turns only in some blocks; nodes in rows of their own; how a row is sorted. -/
namespace Go.Proofs.YtbbnchodchgioaaDoor
open Go.RowKit
set_option linter.unusedVariables false

/-- All elder memory is as it was, but some blocks. -/
structure Exc (P : Nat → Prop) (w w' : World) : Prop where
  os : w'.os = w.os
  tape : w'.tape = w.tape
  output : w'.output = w.output
  size : w.heap.size ≤ w'.heap.size
  block : ∀ b, b < w.heap.size → ¬ P b → w'.heap[b]? = w.heap[b]?
theorem Exc.refl (P : Nat → Prop) (w : World) : Exc P w w := ⟨rfl, rfl, rfl, Nat.le_refl _, fun _ _ _ => rfl⟩
theorem Exc.of {P : Nat → Prop} {w w' : World} (h : Below w.heap.size w w') : Exc P w w' := ⟨h.os, h.tape, h.output, h.size, fun b hb _ => h.block b hb⟩
theorem Exc.trans {P Q : Nat → Prop} {w w1 w2 : World} (h : Exc P w w1) (g : Exc Q w1 w2) (hQ : ∀ b, b < w.heap.size → Q b → P b) : Exc P w w2 :=
  ⟨g.os.trans h.os, g.tape.trans h.tape, g.output.trans h.output, Nat.le_trans h.size g.size, fun b hb hn => (g.block b (Nat.lt_of_lt_of_le hb h.size) (fun hq => hn (hQ b hb hq))).trans (h.block b hb hn)⟩
theorem Exc.below {P : Nat → Prop} {w w1 w2 : World} (h : Exc P w w1) (g : Below w1.heap.size w1 w2) : Exc P w w2 := h.trans (Exc.of (P := P) g) (fun _ _ x => x)
theorem Exc.set {P : Nat → Prop} {w w1 : World} (h : Exc P w w1) {b : Nat} (hb : P b ∨ w.heap.size ≤ b) (o : Nat) (v : Value) : Exc P w (w1.setCell ⟨b, o, none⟩ v) := by
  refine ⟨h.os, h.tape, h.output, by rw [World.size_setCell]; exact h.size, fun c hc hn => ?_⟩
  rw [heap_setCell_other w1 ⟨b, o, none⟩ c v (fun e => by subst e; exact hb.elim hn (fun x => absurd hc (Nat.not_lt.2 x)))]
  exact h.block c hc hn
theorem Exc.drew {P : Nat → Prop} {w w1 : World} (h : Exc P w w1) : Exc P w w1.drew := ⟨h.os, h.tape, h.output, h.size, h.block⟩
theorem Exc.drewN {P : Nat → Prop} {w w1 : World} (h : Exc P w w1) (n : Nat) : Exc P w (w1.drewN n) := ⟨h.os, h.tape, h.output, h.size, h.block⟩
theorem Exc.alloc {P : Nat → Prop} {w w1 : World} (h : Exc P w w1) (o : Obj) : Exc P w (w1.alloc o) := h.below ((Below.refl _ _).alloc (Nat.le_refl _) o)
theorem Exc.to {P : Nat → Prop} {w w1 : World} (h : Exc P w w1) {B : Nat} (hB : B ≤ w.heap.size) (hP : ∀ b, P b → B ≤ b) : Below B w w1 :=
  ⟨h.os, h.tape, h.output, h.size, fun b hb => h.block b (Nat.lt_of_lt_of_le hb hB) (fun hp => absurd hb (Nat.not_lt.2 (hP b hp)))⟩
theorem Exc.at {P : Nat → Prop} {w w1 : World} (h : Exc P w w1) {b : Nat} {o : Obj} (hn : ¬ P b) (hb : w.heap[b]? = some o) : w1.heap[b]? = some o := (h.block b (lt_of_heap hb) hn).trans hb

/-- Where the deps of the nodes lie. -/
abbrev Us : Type := Nat → Option Addr × Nat × Nat
/-- The cells of the node at a place. -/
def ndc (N : List Nd) (U : Us) (k : Nat) : List Value := [.int .i64 (N.getD k nd0).id.1, .int .i64 (N.getD k nd0).id.2, .int .i64 (N.getD k nd0).seq, .slice (U k).1 (U k).2.1 (U k).2.2]
/-- The nodes in memory. -/
structure NdAt (w : World) (g off : Nat) (N : List Nd) (U : Us) : Prop where
  lt : g < w.heap.size
  cell : ∀ i, i < N.length → w.cell? ⟨g, off + i * 4, none⟩ = some (.int .i64 (N.getD i nd0).id.1) ∧ w.cell? ⟨g, off + i * 4 + 1, none⟩ = some (.int .i64 (N.getD i nd0).id.2) ∧ w.cell? ⟨g, off + i * 4 + 2, none⟩ = some (.int .i64 (N.getD i nd0).seq) ∧ w.cell? ⟨g, off + i * 4 + 3, none⟩ = some (.slice (U i).1 (U i).2.1 (U i).2.2)
  ids : ∀ i, i < N.length → Ids w (.slice (U i).1 (U i).2.1 (U i).2.2) (N.getD i nd0).deps
theorem NdAt.up {w w' : World} {g off : Nat} {N : List Nd} {U : Us} (h : NdAt w g off N U) {B : Nat} (hb : Below B w w') (hB : w.heap.size ≤ B) : NdAt w' g off N U := by
  have hc : ∀ o, w'.cell? ⟨g, o, none⟩ = w.cell? ⟨g, o, none⟩ := fun o => hb.cell (p := ⟨g, o, none⟩) (Nat.lt_of_lt_of_le h.lt hB)
  exact ⟨Nat.lt_of_lt_of_le h.lt hb.size, fun i hi => by rw [hc, hc, hc, hc]; exact h.cell i hi, fun i hi => (h.ids i hi).up hb hB⟩
theorem NdAt.ins {w : World} {g off : Nat} {N : List Nd} {U : Us} (h : NdAt w g off N U) : ∀ i, i < N.length → NdIn w g (off + i * 4) (N.getD i nd0) := fun i hi => by
  obtain ⟨h0, h1, h2, h3⟩ := h.cell i hi
  exact ⟨_, _, _, h0, h1, h2, h3, h.ids i hi⟩
theorem NdAt.of {w : World} {g off : Nat} {N : List Nd} (hg : g < w.heap.size) (h : ∀ i, i < N.length → NdIn w g (off + i * 4) (N.getD i nd0)) : ∃ U : Us, NdAt w g off N U := by
  have h' : ∀ i, ∃ u : Option Addr × Nat × Nat, i < N.length → w.cell? ⟨g, off + i * 4, none⟩ = some (.int .i64 (N.getD i nd0).id.1) ∧ w.cell? ⟨g, off + i * 4 + 1, none⟩ = some (.int .i64 (N.getD i nd0).id.2) ∧ w.cell? ⟨g, off + i * 4 + 2, none⟩ = some (.int .i64 (N.getD i nd0).seq) ∧ w.cell? ⟨g, off + i * 4 + 3, none⟩ = some (.slice u.1 u.2.1 u.2.2) ∧ Ids w (.slice u.1 u.2.1 u.2.2) (N.getD i nd0).deps := fun i => by
    by_cases hi : i < N.length
    · obtain ⟨ua, un, uc, h0, h1, h2, h3, h4⟩ := h i hi
      exact ⟨(ua, un, uc), fun _ => ⟨h0, h1, h2, h3, h4⟩⟩
    · exact ⟨(none, 0, 0), fun hh => absurd hh hi⟩
  exact ⟨fun i => Classical.choose (h' i), hg, fun i hi => by obtain ⟨h0, h1, h2, h3, _⟩ := Classical.choose_spec (h' i) hi; exact ⟨h0, h1, h2, h3⟩, fun i hi => (Classical.choose_spec (h' i) hi).2.2.2.2⟩

/-- A row of nodes, by their places, from a block's head on. -/
structure RowN (w : World) (mb : Nat) (N : List Nd) (U : Us) (Q : List Nat) : Prop where
  blk : ∃ cur, w.heap[mb]? = some (.cells cur 32 (0, 0)) ∧ ∀ i, i < Q.length → ∀ j, j < 4 → cur[i * 4 + j]? = (ndc N U (Q.getD i 0))[j]?
theorem RowN.lt {w : World} {mb : Nat} {N : List Nd} {U : Us} {Q : List Nat} (h : RowN w mb N U Q) : mb < w.heap.size := by obtain ⟨_, h, _⟩ := h.blk; exact lt_of_heap h
theorem RowN.cell {w : World} {mb : Nat} {N : List Nd} {U : Us} {Q : List Nat} (h : RowN w mb N U Q) {i : Nat} (hi : i < Q.length) :
    w.cell? ⟨mb, i * 4, none⟩ = some (.int .i64 (N.getD (Q.getD i 0) nd0).id.1) ∧ w.cell? ⟨mb, i * 4 + 1, none⟩ = some (.int .i64 (N.getD (Q.getD i 0) nd0).id.2) ∧ w.cell? ⟨mb, i * 4 + 2, none⟩ = some (.int .i64 (N.getD (Q.getD i 0) nd0).seq) ∧ w.cell? ⟨mb, i * 4 + 3, none⟩ = some (.slice (U (Q.getD i 0)).1 (U (Q.getD i 0)).2.1 (U (Q.getD i 0)).2.2) := by
  obtain ⟨cur, hb, hc⟩ := h.blk
  rw [cell_of_cells hb, cell_of_cells hb, cell_of_cells hb, cell_of_cells hb]
  exact ⟨hc i hi 0 (by omega), hc i hi 1 (by omega), hc i hi 2 (by omega), hc i hi 3 (by omega)⟩
theorem RowN.free {w : World} {mb : Nat} {N : List Nd} {U : Us} {Q : List Nat} (h : RowN w mb N U Q) (m : Nat) : w.frozen? ⟨mb, m, none⟩ = false := by
  obtain ⟨cur, hb, hc⟩ := h.blk
  simp [World.frozen?, hb]
theorem RowN.same {w w' : World} {mb : Nat} {N : List Nd} {U : Us} {Q : List Nat} (h : RowN w mb N U Q) (hb : w'.heap[mb]? = w.heap[mb]?) : RowN w' mb N U Q := by
  obtain ⟨cur, h1, h2⟩ := h.blk
  exact ⟨cur, hb.trans h1, h2⟩
/-- A node put at a place of the row. -/
theorem RowN.put {w : World} {mb : Nat} {N : List Nd} {U : Us} {Q : List Nat} (h : RowN w mb N U Q) {i k : Nat} (hi : i < Q.length) {v0 v1 v2 v3 : Value} (e : ndc N U k = [v0, v1, v2, v3]) :
    RowN ((((w.setCell ⟨mb, i * 4, none⟩ v0).setCell ⟨mb, i * 4 + 1, none⟩ v1).setCell ⟨mb, i * 4 + 2, none⟩ v2).setCell ⟨mb, i * 4 + 3, none⟩ v3) mb N U (Q.set i k) := by
  obtain ⟨cur, hb, hc⟩ := h.blk
  have e1 := heap_setCell_same w mb (i * 4) cur _ v0 hb
  have e2 := heap_setCell_same _ mb (i * 4 + 1) _ _ v1 e1
  have e3 := heap_setCell_same _ mb (i * 4 + 2) _ _ v2 e2
  have e4 := heap_setCell_same _ mb (i * 4 + 3) _ _ v3 e3
  have hs : i * 4 + 3 < cur.size := by
    have := hc i hi 3 (by omega)
    rcases Nat.lt_or_ge (i * 4 + 3) cur.size with h | h
    · exact h
    · rw [Array.getElem?_eq_none h] at this; simp [ndc] at this
  refine ⟨_, e4, fun m hm j hj => ?_⟩
  rw [List.length_set] at hm
  by_cases em : m = i
  · subst em
    have eg : (Q.set m k).getD m 0 = k := by rw [List.getD_eq_getElem?_getD, List.getElem?_set_self hm]; rfl
    rw [eg, e]
    rcases (show j = 0 ∨ j = 1 ∨ j = 2 ∨ j = 3 by omega) with rfl | rfl | rfl | rfl <;> simp [hs, show m * 4 < cur.size by omega, show m * 4 + 1 < cur.size by omega, show m * 4 + 2 < cur.size by omega]
  · have eg : (Q.set i k).getD m 0 = Q.getD m 0 := by
      rw [List.getD_eq_getElem?_getD, List.getElem?_set_ne (fun x => em x.symm), ← List.getD_eq_getElem?_getD]
    rw [eg]
    simp only [Array.getElem?_setIfInBounds]
    rw [if_neg (by omega), if_neg (by omega), if_neg (by omega), if_neg (by omega)]
    exact hc m hm j hj

/-- Which place is sooner. -/
def soonK (N : List Nd) (k l : Nat) : Prop := (N.getD k nd0).seq < (N.getD l nd0).seq ∨ (N.getD k nd0).seq = (N.getD l nd0).seq ∧ ltP (N.getD k nd0).id (N.getD l nd0).id = true
theorem soonK.trans {N : List Nd} {a b c : Nat} (h : soonK N a b) (g : soonK N b c) : soonK N a c := by
  rcases h with h | ⟨h1, h2⟩ <;> rcases g with g | ⟨g1, g2⟩
  · exact .inl (by omega)
  · exact .inl (by omega)
  · exact .inl (by omega)
  · exact .inr ⟨by omega, ltP_trans h2 g2⟩
theorem soonK.tri {N : List Nd} (h : nodB N = true) {a b : Nat} (ha : a < N.length) (hb : b < N.length) (hne : a ≠ b) (hn : ¬ soonK N a b) : soonK N b a := by
  unfold soonK at hn ⊢
  by_cases h1 : (N.getD b nd0).seq < (N.getD a nd0).seq
  · exact .inl h1
  · have e : (N.getD b nd0).seq = (N.getD a nd0).seq := by
      have : ¬ (N.getD a nd0).seq < (N.getD b nd0).seq := fun hh => hn (.inl hh)
      omega
    refine .inr ⟨e, ?_⟩
    rw [nod_lt h hb ha]
    have h3 : ¬ a < b := fun hl => hn (.inr ⟨e.symm, (nod_lt h ha hb).2 hl⟩)
    omega

/-- Within insertion sort: all up to i are in order, but the one at j, which is sooner than all behind it. -/
structure Ins (N : List Nd) (Q0 Q : List Nat) (i j : Nat) : Prop where
  perm : Q.Perm Q0
  le : j ≤ i
  lt : i < Q.length
  ord : ∀ a b, a < b → b ≤ i → a ≠ j → b ≠ j → soonK N (Q.getD a 0) (Q.getD b 0)
  low : ∀ b, j < b → b ≤ i → soonK N (Q.getD j 0) (Q.getD b 0)
/-- All ahead of i are in order. -/
structure Srd (N : List Nd) (Q0 Q : List Nat) (i : Nat) : Prop where
  perm : Q.Perm Q0
  le : i ≤ Q.length
  ord : ∀ a b, a < b → b < i → soonK N (Q.getD a 0) (Q.getD b 0)
theorem Srd.ins {N : List Nd} {Q0 Q : List Nat} {i : Nat} (h : Srd N Q0 Q i) (hi : i < Q.length) : Ins N Q0 Q i i :=
  ⟨h.perm, Nat.le_refl _, hi, fun a b hab hb _ hb' => h.ord a b hab (by omega), fun b h1 h2 => by omega⟩
theorem Ins.done {N : List Nd} {Q0 Q : List Nat} {i j : Nat} (h : Ins N Q0 Q i j) (hj : j = 0 ∨ soonK N (Q.getD (j - 1) 0) (Q.getD j 0)) : Srd N Q0 Q (i + 1) := by
  refine ⟨h.perm, h.lt, fun a b hab hb => ?_⟩
  by_cases ea : a = j
  · subst ea; exact h.low b hab (by omega)
  · by_cases eb : b = j
    · subst eb
      rcases hj with rfl | hj
      · omega
      · by_cases e : a = b - 1
        · subst e; exact hj
        · exact (h.ord a (b - 1) (by omega) (by omega) ea (by omega)).trans hj
    · exact h.ord a b hab (by omega) ea eb
theorem Ins.step {N : List Nd} {Q0 Q : List Nat} {i j : Nat} (h : Ins N Q0 Q i (j + 1)) (hs : soonK N (Q.getD (j + 1) 0) (Q.getD j 0)) : Ins N Q0 ((Q.set (j + 1) (Q.getD j 0)).set j (Q.getD (j + 1) 0)) i j := by
  have hlt := h.lt
  have hle := h.le
  have hj1 : j + 1 < Q.length := by omega
  have g0 : ((Q.set (j + 1) (Q.getD j 0)).set j (Q.getD (j + 1) 0)).getD j 0 = Q.getD (j + 1) 0 := by
    rw [List.getD_eq_getElem?_getD, List.getElem?_set_self (by rw [List.length_set]; omega)]; rfl
  have g1 : ((Q.set (j + 1) (Q.getD j 0)).set j (Q.getD (j + 1) 0)).getD (j + 1) 0 = Q.getD j 0 := by
    rw [List.getD_eq_getElem?_getD, List.getElem?_set_ne (by omega), List.getElem?_set_self hj1]; rfl
  have g2 : ∀ m, m ≠ j → m ≠ j + 1 → ((Q.set (j + 1) (Q.getD j 0)).set j (Q.getD (j + 1) 0)).getD m 0 = Q.getD m 0 := fun m h1 h2 => by
    rw [List.getD_eq_getElem?_getD, List.getElem?_set_ne (fun e => h1 e.symm), List.getElem?_set_ne (fun e => h2 e.symm), ← List.getD_eq_getElem?_getD]
  refine ⟨?_, by omega, by rw [List.length_set, List.length_set]; exact hlt, fun a b hab hb ha hb' => ?_, fun b h1 h2 => ?_⟩
  · refine List.Perm.trans ?_ h.perm
    have e : Q = Q.take j ++ Q[j] :: Q[j + 1] :: Q.drop (j + 2) := by
      rw [← List.drop_eq_getElem_cons hj1, ← List.drop_eq_getElem_cons (by omega), List.take_append_drop]
    have e' : (Q.set (j + 1) (Q.getD j 0)).set j (Q.getD (j + 1) 0) = Q.take j ++ Q[j + 1] :: Q[j] :: Q.drop (j + 2) := by
      have q0 : Q.getD j 0 = Q[j] := by rw [List.getD_eq_getElem?_getD, List.getElem?_eq_getElem (by omega)]; rfl
      have q1 : Q.getD (j + 1) 0 = Q[j + 1] := by rw [List.getD_eq_getElem?_getD, List.getElem?_eq_getElem hj1]; rfl
      rw [q0, q1]
      generalize Q[j] = y at e ⊢
      generalize Q[j + 1] = x at e ⊢
      have hl : (Q.take j).length = j := by rw [List.length_take]; omega
      generalize Q.take j = A at e hl ⊢
      generalize Q.drop (j + 2) = B at e ⊢
      subst e
      subst hl
      simp
    rw [e']
    conv => rhs; rw [e]
    exact List.Perm.append_left _ (List.Perm.swap _ _ _)
  · by_cases eb : b = j + 1
    · subst eb; rw [g1, g2 a ha (by omega)]
      exact h.ord a j (by omega) (by omega) (by omega) (by omega)
    · rw [g2 b hb' eb]
      by_cases ea : a = j + 1
      · subst ea; rw [g1]
        exact h.ord j b (by omega) hb (by omega) eb
      · rw [g2 a ha ea]; exact h.ord a b hab hb ea eb
  · rw [g0]
    by_cases eb : b = j + 1
    · subst eb; rw [g1]; exact hs
    · rw [g2 b (by omega) eb]; exact h.low b (by omega) h2
end Go.Proofs.YtbbnchodchgioaaDoor

/- The finder in memory: its fields, the stack, the groups. -/
namespace Go.Proofs.YtbbnchodchgioaaDoor
open Go.RowKit
set_option linter.unusedVariables false

/-- A block's kind. -/
def Typ (w : World) (b : Nat) (t : TypeId) : Prop := ∃ cur, w.heap[b]? = some (.cells cur t (0, 0))
theorem Typ.uniq {w : World} {b : Nat} {t u : TypeId} (h : Typ w b t) (g : Typ w b u) : t = u := by
  obtain ⟨c, h⟩ := h; obtain ⟨d, g⟩ := g
  rw [h] at g; simp at g; exact g.2
theorem Typ.ne {w : World} {b c : Nat} {t u : TypeId} (h : Typ w b t) (g : Typ w c u) (hn : t ≠ u) : b ≠ c := fun e => by subst e; exact hn (h.uniq g)
theorem Typ.lt {w : World} {b : Nat} {t : TypeId} (h : Typ w b t) : b < w.heap.size := by obtain ⟨_, h⟩ := h; exact lt_of_heap h
theorem Typ.same {w w' : World} {b : Nat} {t : TypeId} (h : Typ w b t) (e : w'.heap[b]? = w.heap[b]?) : Typ w' b t := by obtain ⟨c, h⟩ := h; exact ⟨c, e.trans h⟩
theorem Typ.set {w : World} {b c o : Nat} {v : Value} {t : TypeId} (h : Typ w b t) : Typ (w.setCell ⟨c, o, none⟩ v) b t := by
  obtain ⟨cur, h⟩ := h
  by_cases e : c = b
  · subst e; exact ⟨_, heap_setCell_same w c o cur t v h⟩
  · exact ⟨cur, by rw [heap_setCell_other w ⟨c, o, none⟩ b v (fun x => e x.symm)]; exact h⟩

def nv (k : Nat) : Value := .int .i64 k
def pv (b : Nat) : Value := .pointer (some ⟨b, 0, none⟩)
def ptrO : Option Nat → Value
  | none => .pointer none
  | some b => .pointer (some ⟨b, 0, none⟩)

/-- The finder's fields. -/
structure Fi (w : World) (fb : Nat) (v0 sv gv : Value) (m : Nat) (met : Nat → Nat) (fo : Nat → Option Nat) : Prop where
  blk : ∃ cur, w.heap[fb]? = some (.cells cur 93 (0, 0)) ∧ cur.size = 28 ∧ cur[0]? = some v0 ∧ cur[1]? = some sv ∧ cur[2]? = some (nv m) ∧ cur[27]? = some gv ∧ (∀ i, i < 12 → cur[3 + i]? = some (nv (met i))) ∧ ∀ i, i < 12 → cur[15 + i]? = some (ptrO (fo i))
section
variable {w : World} {fb : Nat} {v0 sv gv : Value} {m : Nat} {met : Nat → Nat} {fo : Nat → Option Nat}
theorem Fi.typ (h : Fi w fb v0 sv gv m met fo) : Typ w fb 93 := by obtain ⟨cur, h, _⟩ := h.blk; exact ⟨cur, h⟩
theorem Fi.lt (h : Fi w fb v0 sv gv m met fo) : fb < w.heap.size := h.typ.lt
theorem Fi.same {w' : World} (h : Fi w fb v0 sv gv m met fo) (e : w'.heap[fb]? = w.heap[fb]?) : Fi w' fb v0 sv gv m met fo := by
  obtain ⟨cur, h1, h2⟩ := h.blk; exact ⟨cur, e.trans h1, h2⟩
theorem Fi.free (h : Fi w fb v0 sv gv m met fo) (o : Nat) : w.frozen? ⟨fb, o, none⟩ = false := by obtain ⟨cur, h, _⟩ := h.blk; simp [World.frozen?, h]
theorem Fi.cells (h : Fi w fb v0 sv gv m met fo) : w.cell? ⟨fb, 0, none⟩ = some v0 ∧ w.cell? ⟨fb, 1, none⟩ = some sv ∧ w.cell? ⟨fb, 2, none⟩ = some (nv m) ∧ w.cell? ⟨fb, 27, none⟩ = some gv := by
  obtain ⟨cur, hb, _, h0, h1, h2, h3, _⟩ := h.blk
  rw [cell_of_cells hb, cell_of_cells hb, cell_of_cells hb, cell_of_cells hb]; exact ⟨h0, h1, h2, h3⟩
theorem Fi.metc (h : Fi w fb v0 sv gv m met fo) {i : Nat} (hi : i < 12) : w.cell? ⟨fb, 3 + i, none⟩ = some (nv (met i)) := by
  obtain ⟨cur, hb, _, _, _, _, _, h0, _⟩ := h.blk
  rw [cell_of_cells hb]; exact h0 i hi
theorem Fi.foc (h : Fi w fb v0 sv gv m met fo) {i : Nat} (hi : i < 12) : w.cell? ⟨fb, 15 + i, none⟩ = some (ptrO (fo i)) := by
  obtain ⟨cur, hb, _, _, _, _, _, _, h0⟩ := h.blk
  rw [cell_of_cells hb]; exact h0 i hi
theorem Fi.setMany (h : Fi w fb v0 sv gv m met fo) (x : Nat) : Fi (w.setCell ⟨fb, 2, none⟩ (nv x)) fb v0 sv gv x met fo := by
  obtain ⟨cur, hb, hs, h0, h1, h2, h3, h4, h5⟩ := h.blk
  refine ⟨_, heap_setCell_same w fb 2 cur _ _ hb, by simpa using hs, ?_, ?_, ?_, ?_, fun i hi => ?_, fun i hi => ?_⟩
  · simpa [Array.getElem?_setIfInBounds] using h0
  · simpa [Array.getElem?_setIfInBounds] using h1
  · simp [hs]
  · simpa [Array.getElem?_setIfInBounds] using h3
  · rw [Array.getElem?_setIfInBounds, if_neg (by omega)]; exact h4 i hi
  · rw [Array.getElem?_setIfInBounds, if_neg (by omega)]; exact h5 i hi
theorem Fi.setStack (h : Fi w fb v0 sv gv m met fo) (u : Value) : Fi (w.setCell ⟨fb, 1, none⟩ u) fb v0 u gv m met fo := by
  obtain ⟨cur, hb, hs, h0, h1, h2, h3, h4, h5⟩ := h.blk
  refine ⟨_, heap_setCell_same w fb 1 cur _ _ hb, by simpa using hs, ?_, ?_, ?_, ?_, fun i hi => ?_, fun i hi => ?_⟩
  · simpa [Array.getElem?_setIfInBounds] using h0
  · simp [hs]
  · simpa [Array.getElem?_setIfInBounds] using h2
  · simpa [Array.getElem?_setIfInBounds] using h3
  · rw [Array.getElem?_setIfInBounds, if_neg (by omega)]; exact h4 i hi
  · rw [Array.getElem?_setIfInBounds, if_neg (by omega)]; exact h5 i hi
theorem Fi.setGroups (h : Fi w fb v0 sv gv m met fo) (u : Value) : Fi (w.setCell ⟨fb, 27, none⟩ u) fb v0 sv u m met fo := by
  obtain ⟨cur, hb, hs, h0, h1, h2, h3, h4, h5⟩ := h.blk
  refine ⟨_, heap_setCell_same w fb 27 cur _ _ hb, by simpa using hs, ?_, ?_, ?_, ?_, fun i hi => ?_, fun i hi => ?_⟩
  · simpa [Array.getElem?_setIfInBounds] using h0
  · simpa [Array.getElem?_setIfInBounds] using h1
  · simpa [Array.getElem?_setIfInBounds] using h2
  · simp [hs]
  · rw [Array.getElem?_setIfInBounds, if_neg (by omega)]; exact h4 i hi
  · rw [Array.getElem?_setIfInBounds, if_neg (by omega)]; exact h5 i hi
theorem Fi.setMet (h : Fi w fb v0 sv gv m met fo) {p : Nat} (hp : p < 12) (x : Nat) : Fi (w.setCell ⟨fb, 3 + p, none⟩ (nv x)) fb v0 sv gv m (fun i => if i = p then x else met i) fo := by
  obtain ⟨cur, hb, hs, h0, h1, h2, h3, h4, h5⟩ := h.blk
  refine ⟨_, heap_setCell_same w fb (3 + p) cur _ _ hb, by simpa using hs, ?_, ?_, ?_, ?_, fun i hi => ?_, fun i hi => ?_⟩
  · rw [Array.getElem?_setIfInBounds, if_neg (by omega)]; exact h0
  · rw [Array.getElem?_setIfInBounds, if_neg (by omega)]; exact h1
  · rw [Array.getElem?_setIfInBounds, if_neg (by omega)]; exact h2
  · rw [Array.getElem?_setIfInBounds, if_neg (by omega)]; exact h3
  · rw [Array.getElem?_setIfInBounds]
    by_cases e : i = p
    · subst e; rw [if_pos rfl, if_pos (by omega), if_pos rfl]
    · rw [if_neg (by omega), if_neg e]; exact h4 i hi
  · rw [Array.getElem?_setIfInBounds, if_neg (by omega)]; exact h5 i hi
theorem Fi.setFound (h : Fi w fb v0 sv gv m met fo) {p : Nat} (hp : p < 12) (x : Nat) : Fi (w.setCell ⟨fb, 15 + p, none⟩ (pv x)) fb v0 sv gv m met (fun i => if i = p then some x else fo i) := by
  obtain ⟨cur, hb, hs, h0, h1, h2, h3, h4, h5⟩ := h.blk
  refine ⟨_, heap_setCell_same w fb (15 + p) cur _ _ hb, by simpa using hs, ?_, ?_, ?_, ?_, fun i hi => ?_, fun i hi => ?_⟩
  · rw [Array.getElem?_setIfInBounds, if_neg (by omega)]; exact h0
  · rw [Array.getElem?_setIfInBounds, if_neg (by omega)]; exact h1
  · rw [Array.getElem?_setIfInBounds, if_neg (by omega)]; exact h2
  · rw [Array.getElem?_setIfInBounds, if_neg (by omega)]; exact h3
  · rw [Array.getElem?_setIfInBounds, if_neg (by omega)]; exact h4 i hi
  · rw [Array.getElem?_setIfInBounds]
    by_cases e : i = p
    · subst e; rw [if_pos rfl, if_pos (by omega), if_pos rfl]; rfl
    · rw [if_neg (by omega), if_neg e]; exact h5 i hi
theorem Fi.found_ext (h : Fi w fb v0 sv gv m met fo) {fo' : Nat → Option Nat} (e : ∀ i, i < 12 → fo' i = fo i) : Fi w fb v0 sv gv m met fo' := by
  obtain ⟨cur, hb, hs, h0, h1, h2, h3, h4, h5⟩ := h.blk
  exact ⟨cur, hb, hs, h0, h1, h2, h3, h4, fun i hi => by rw [e i hi]; exact h5 i hi⟩
end

/-- The blocks that a walk writes into: the finder, its stack, its groups. -/
def Pv (w : World) (b : Nat) : Prop := Typ w b 93 ∨ Typ w b 3 ∨ Typ w b 59
def Exv (w w' : World) : Prop := Exc (Pv w) w w'
theorem Exv.refl (w : World) : Exv w w := Exc.refl _ _
theorem Exv.of {w w' : World} (h : Below w.heap.size w w') : Exv w w' := Exc.of h
theorem Exv.trans {w w1 w2 : World} (h : Exv w w1) (g : Exv w1 w2) : Exv w w2 := by
  refine Exc.trans h g fun b hb hq => ?_
  by_cases e : Pv w b
  · exact e
  · have hs := h.block b hb e
    rcases hq with hq | hq | hq
    · exact .inl (hq.same hs.symm)
    · exact .inr (.inl (hq.same hs.symm))
    · exact .inr (.inr (hq.same hs.symm))
theorem Exv.set {w w1 : World} (h : Exv w w1) {b : Nat} (hb : Pv w1 b) (o : Nat) (v : Value) : Exv w (w1.setCell ⟨b, o, none⟩ v) :=
  h.trans ((Exc.refl _ _).set (.inl hb) o v)
theorem Exv.below {w w1 w2 : World} (h : Exv w w1) (g : Below w1.heap.size w1 w2) : Exv w w2 := h.trans (Exv.of g)
theorem Exv.exc {P : Nat → Prop} {w w1 w2 : World} (h : Exv w w1) (g : Exc P w1 w2) (hP : ∀ b, P b → Pv w1 b ∨ w1.heap.size ≤ b) : Exv w w2 :=
  h.trans ⟨g.os, g.tape, g.output, g.size, fun b hb hn => g.block b hb (fun hp => (hP b hp).elim hn (fun x => absurd hb (Nat.not_lt.2 x)))⟩
theorem Exv.drew {w w1 : World} (h : Exv w w1) : Exv w w1.drew := Exc.drew h
theorem Exv.keep {w w' : World} (h : Exv w w') {b : Nat} {t : TypeId} (ht : Typ w b t) (n1 : t ≠ 93) (n2 : t ≠ 3) (n3 : t ≠ 59) : w'.heap[b]? = w.heap[b]? := by
  refine h.block b ht.lt fun hp => ?_
  rcases hp with hp | hp | hp
  · exact n1 (ht.uniq hp)
  · exact n2 (ht.uniq hp)
  · exact n3 (ht.uniq hp)
theorem ownb_typ {w : World} {B : Nat} {e : TypeId} {size : Nat} {v : Value} {n : Nat} {xs : List Value} (h : w.ownsRow B e size v n xs) {k : Nat} (hk : v.ownBlock = some k) : Typ w k e := by
  rcases h.2 with ⟨rfl, _⟩ | ⟨g, cap, cur, rfl, _, hg, _⟩
  · simp [Value.ownBlock] at hk
  · simp [Value.ownBlock] at hk; subst hk; exact ⟨cur, hg⟩
theorem Exv.grown {w w' : World} {B : Nat} {e : TypeId} {size : Nat} {v : Value} {n : Nat} {xs : List Value} (h : w.ownsRow B e size v n xs) (hg : w.grownBy w' v.ownBlock) (he : e = 3 ∨ e = 59) : Exv w w' := by
  refine ⟨hg.os, hg.tape, hg.output, hg.size, fun b hb hn => hg.block b hb fun hh => hn ?_⟩
  have := ownb_typ h hh.symm
  rcases he with rfl | rfl
  · exact .inr (.inl this)
  · exact .inr (.inr this)
theorem row_same {w w' : World} {B : Nat} {e : TypeId} {size : Nat} {v : Value} {n : Nat} {xs : List Value} (h : w.ownsRow B e size v n xs) (hs : ∀ k, v.ownBlock = some k → w'.heap[k]? = w.heap[k]?) : w'.ownsRow B e size v n xs := by
  refine ⟨h.1, ?_⟩
  rcases h.2 with hn | ⟨g, cap, cur, rfl, hb, hg, rest⟩
  · exact .inl hn
  · exact .inr ⟨g, cap, cur, rfl, hb, (hs g rfl).trans hg, rest⟩
theorem row_base {w : World} {B B' : Nat} {e : TypeId} {size : Nat} {v : Value} {n : Nat} {xs : List Value} (h : w.ownsRow B e size v n xs) (hB : B' ≤ B) : w.ownsRow B' e size v n xs := by
  refine ⟨h.1, ?_⟩
  rcases h.2 with hn | ⟨g, cap, cur, rfl, hb, hg, rest⟩
  · exact .inl hn
  · exact .inr ⟨g, cap, cur, rfl, Nat.le_trans hB hb, hg, rest⟩
/-- A row cut. -/
theorem row_cut {w : World} {B : Nat} {e : TypeId} {v : Value} {A C : List Value} (h : w.ownsRow B e 1 v (A.length + C.length) (A ++ C)) (hC : 0 < C.length) :
    ∃ g cap cur, v = .slice (some ⟨g, 0, none⟩) (A.length + C.length) cap ∧ B ≤ g ∧ w.heap[g]? = some (.cells cur e (0, 0)) ∧ A.length + C.length ≤ cap ∧ cap ≤ maxLen ∧ w.ownsRow B e 1 (.slice (some ⟨g, 0, none⟩) A.length cap) A.length A ∧ ∀ i, i < C.length → w.cell? ⟨g, A.length + i, none⟩ = C[i]? := by
  rcases h.2 with ⟨rfl, h0⟩ | ⟨g, cap, cur, rfl, hb, hg, hn, hm, hs, ht⟩
  · omega
  · rw [Nat.mul_one] at ht
    refine ⟨g, cap, cur, rfl, hb, hg, hn, hm, ⟨by simp, .inr ⟨g, cap, cur, rfl, hb, hg, by omega, hm, hs, ?_⟩⟩, fun i hi => ?_⟩
    · rw [Nat.mul_one]
      have := congrArg (List.take A.length) ht
      rw [List.take_take, Nat.min_eq_left (by omega)] at this
      rw [this]; simp
    · rw [cell_of_cells hg]
      have h1 : (A ++ C)[A.length + i]? = C[i]? := by rw [List.getElem?_append_right (by omega)]; congr 1; omega
      rw [← h1, ← ht, List.getElem?_take, if_pos (by omega)]
      simp

/-- A group as numbers. -/
structure GM (N : List Nd) (i : Nat) (Q : List Nat) (f r : Nat → Nat) (rd : Bool) : Prop where
  srt : Q.Pairwise (soonK N)
  mem : ∀ k, k ∈ Q ↔ Sc (EN N) i k
  ids : Bits f (fun x => Sc (EI N) (N.getD i nd0).id x)
  rch : Bits r (Rp (EI N) (N.getD i nd0).id)
  rdy : rd = true ↔ RdI N (N.getD i nd0).id
theorem GM.move {N : List Nd} {i j : Nat} {Q : List Nat} {f r : Nat → Nat} {rd : Bool} (h : GM N i Q f r rd) (hs : Sc (EN N) i j) (hv : nodB N = true) (hi : i < N.length) (hj : j < N.length) : GM N j Q f r rd := by
  have hs' := (sc_iff hv hi hj).1 hs
  refine ⟨h.srt, fun k => ?_, h.ids.ext fun x => ?_, h.rch.ext fun x => ?_, h.rdy.trans ?_⟩
  · rw [h.mem]; exact ⟨fun x => hs.symm.trans x, fun x => hs.trans x⟩
  · exact ⟨fun x => hs'.symm.trans x, fun x => hs'.trans x⟩
  · exact ⟨fun x => hs'.2.rp x, fun x => hs'.1.rp x⟩
  · exact ⟨fun x => x.on hs'.1, fun x => x.on hs'.2⟩
/-- A group's fields. -/
structure Gb (w : World) (gb : Nat) (mv : Value) (f r : Nat → Nat) (rd : Bool) : Prop where
  blk : ∃ cur, w.heap[gb]? = some (.cells cur 58 (0, 0)) ∧ cur.size = 12 ∧ cur[0]? = some mv ∧ (∀ k, k < 5 → cur[1 + k]? = some (.int .u64 (f k))) ∧ (∀ k, k < 5 → cur[6 + k]? = some (.int .u64 (r k))) ∧ cur[11]? = some (.bool rd)
section
variable {w : World} {gb : Nat} {mv : Value} {f r : Nat → Nat} {rd : Bool}
theorem Gb.typ (h : Gb w gb mv f r rd) : Typ w gb 58 := by obtain ⟨cur, h, _⟩ := h.blk; exact ⟨cur, h⟩
theorem Gb.lt (h : Gb w gb mv f r rd) : gb < w.heap.size := h.typ.lt
theorem Gb.same {w' : World} (h : Gb w gb mv f r rd) (e : w'.heap[gb]? = w.heap[gb]?) : Gb w' gb mv f r rd := by
  obtain ⟨cur, h1, h2⟩ := h.blk; exact ⟨cur, e.trans h1, h2⟩
theorem Gb.free (h : Gb w gb mv f r rd) (o : Nat) : w.frozen? ⟨gb, o, none⟩ = false := by obtain ⟨cur, h, _⟩ := h.blk; simp [World.frozen?, h]
theorem Gb.c0 (h : Gb w gb mv f r rd) : w.cell? ⟨gb, 0, none⟩ = some mv := by obtain ⟨cur, hb, _, h0, _⟩ := h.blk; rw [cell_of_cells hb]; exact h0
theorem Gb.c11 (h : Gb w gb mv f r rd) : w.cell? ⟨gb, 11, none⟩ = some (.bool rd) := by obtain ⟨cur, hb, _, _, _, _, h0⟩ := h.blk; rw [cell_of_cells hb]; exact h0
theorem Gb.cf (h : Gb w gb mv f r rd) {k : Nat} (hk : k < 5) : w.cell? ⟨gb, 1 + k, none⟩ = some (.int .u64 (f k)) := by obtain ⟨cur, hb, _, _, h0, _⟩ := h.blk; rw [cell_of_cells hb]; exact h0 k hk
theorem Gb.cr (h : Gb w gb mv f r rd) {k : Nat} (hk : k < 5) : w.cell? ⟨gb, 6 + k, none⟩ = some (.int .u64 (r k)) := by obtain ⟨cur, hb, _, _, _, h0, _⟩ := h.blk; rw [cell_of_cells hb]; exact h0 k hk
theorem Gb.fs (h : Gb w gb mv f r rd) : w.cell? ⟨gb, 1, none⟩ = some (.int .u64 (f 0)) ∧ w.cell? ⟨gb, 2, none⟩ = some (.int .u64 (f 1)) ∧ w.cell? ⟨gb, 3, none⟩ = some (.int .u64 (f 2)) ∧ w.cell? ⟨gb, 4, none⟩ = some (.int .u64 (f 3)) ∧ w.cell? ⟨gb, 5, none⟩ = some (.int .u64 (f 4)) :=
  ⟨h.cf (k := 0) (by omega), h.cf (k := 1) (by omega), h.cf (k := 2) (by omega), h.cf (k := 3) (by omega), h.cf (k := 4) (by omega)⟩
theorem Gb.rs (h : Gb w gb mv f r rd) : w.cell? ⟨gb, 6, none⟩ = some (.int .u64 (r 0)) ∧ w.cell? ⟨gb, 7, none⟩ = some (.int .u64 (r 1)) ∧ w.cell? ⟨gb, 8, none⟩ = some (.int .u64 (r 2)) ∧ w.cell? ⟨gb, 9, none⟩ = some (.int .u64 (r 3)) ∧ w.cell? ⟨gb, 10, none⟩ = some (.int .u64 (r 4)) :=
  ⟨h.cr (k := 0) (by omega), h.cr (k := 1) (by omega), h.cr (k := 2) (by omega), h.cr (k := 3) (by omega), h.cr (k := 4) (by omega)⟩
theorem Gb.set0 (h : Gb w gb mv f r rd) (u : Value) : Gb (w.setCell ⟨gb, 0, none⟩ u) gb u f r rd := by
  obtain ⟨cur, hb, hs, h0, h1, h2, h3⟩ := h.blk
  refine ⟨_, heap_setCell_same w gb 0 cur _ _ hb, by simpa using hs, by simp [hs], fun k hk => ?_, fun k hk => ?_, ?_⟩
  · rw [Array.getElem?_setIfInBounds, if_neg (by omega)]; exact h1 k hk
  · rw [Array.getElem?_setIfInBounds, if_neg (by omega)]; exact h2 k hk
  · rw [Array.getElem?_setIfInBounds, if_neg (by omega)]; exact h3
theorem Gb.set11 (h : Gb w gb mv f r rd) (b : Bool) : Gb (w.setCell ⟨gb, 11, none⟩ (.bool b)) gb mv f r b := by
  obtain ⟨cur, hb, hs, h0, h1, h2, h3⟩ := h.blk
  refine ⟨_, heap_setCell_same w gb 11 cur _ _ hb, by simpa using hs, ?_, fun k hk => ?_, fun k hk => ?_, by simp [hs]⟩
  · rw [Array.getElem?_setIfInBounds, if_neg (by omega)]; exact h0
  · rw [Array.getElem?_setIfInBounds, if_neg (by omega)]; exact h1 k hk
  · rw [Array.getElem?_setIfInBounds, if_neg (by omega)]; exact h2 k hk
theorem Gb.setf (h : Gb w gb mv f r rd) {p : Nat} (hp : p < 5) (x : Nat) : Gb (w.setCell ⟨gb, 1 + p, none⟩ (.int .u64 (x : Int))) gb mv (fun k => if k = p then x else f k) r rd := by
  obtain ⟨cur, hb, hs, h0, h1, h2, h3⟩ := h.blk
  refine ⟨_, heap_setCell_same w gb (1 + p) cur _ _ hb, by simpa using hs, ?_, fun k hk => ?_, fun k hk => ?_, ?_⟩
  · rw [Array.getElem?_setIfInBounds, if_neg (by omega)]; exact h0
  · rw [Array.getElem?_setIfInBounds]
    by_cases e : k = p
    · subst e; rw [if_pos rfl, if_pos (by omega), if_pos rfl]
    · rw [if_neg (by omega), if_neg e]; exact h1 k hk
  · rw [Array.getElem?_setIfInBounds, if_neg (by omega)]; exact h2 k hk
  · rw [Array.getElem?_setIfInBounds, if_neg (by omega)]; exact h3
theorem Gb.setr (h : Gb w gb mv f r rd) {p : Nat} (hp : p < 5) (x : Nat) : Gb (w.setCell ⟨gb, 6 + p, none⟩ (.int .u64 (x : Int))) gb mv f (fun k => if k = p then x else r k) rd := by
  obtain ⟨cur, hb, hs, h0, h1, h2, h3⟩ := h.blk
  refine ⟨_, heap_setCell_same w gb (6 + p) cur _ _ hb, by simpa using hs, ?_, fun k hk => ?_, fun k hk => ?_, ?_⟩
  · rw [Array.getElem?_setIfInBounds, if_neg (by omega)]; exact h0
  · rw [Array.getElem?_setIfInBounds, if_neg (by omega)]; exact h1 k hk
  · rw [Array.getElem?_setIfInBounds]
    by_cases e : k = p
    · subst e; rw [if_pos rfl, if_pos (by omega), if_pos rfl]
    · rw [if_neg (by omega), if_neg e]; exact h2 k hk
  · rw [Array.getElem?_setIfInBounds, if_neg (by omega)]; exact h3
theorem Gb.ext (h : Gb w gb mv f r rd) {f' r' : Nat → Nat} (ef : ∀ k, k < 5 → f' k = f k) (er : ∀ k, k < 5 → r' k = r k) : Gb w gb mv f' r' rd := by
  obtain ⟨cur, hb, hs, h0, h1, h2, h3⟩ := h.blk
  exact ⟨cur, hb, hs, h0, fun k hk => by rw [ef k hk]; exact h1 k hk, fun k hk => by rw [er k hk]; exact h2 k hk, h3⟩
/-- An id is put into the group's ids. -/
theorem Gb.addf (h : Gb w gb mv f r rd) {p n : Nat} (hp : p < 5) : Gb (w.setCell ⟨gb, 1 + p, none⟩ (.int .u64 ((f p ||| 2 ^ n : Nat) : Int))) gb mv (addF f ((p : Int), (n : Int))) r rd :=
  (h.setf hp (f p ||| 2 ^ n)).ext (fun k _ => by
    unfold addF
    by_cases e : k = p
    · subst e; simp
    · have : ¬ ((p : Int) = (k : Int)) := by omega
      simp only [if_neg this, if_neg e]) (fun _ _ => rfl)
theorem Gb.addr (h : Gb w gb mv f r rd) {p n : Nat} (hp : p < 5) : Gb (w.setCell ⟨gb, 6 + p, none⟩ (.int .u64 ((r p ||| 2 ^ n : Nat) : Int))) gb mv f (addF r ((p : Int), (n : Int))) rd :=
  (h.setr hp (r p ||| 2 ^ n)).ext (fun _ _ => rfl) (fun k _ => by
    unfold addF
    by_cases e : k = p
    · subst e; simp
    · have : ¬ ((p : Int) = (k : Int)) := by omega
      simp only [if_neg this, if_neg e])
/-- All that is reached is stored. -/
theorem Gb.putr (h : Gb w gb mv f r rd) (q : Nat → Nat) : Gb (((((w.setCell ⟨gb, 6, none⟩ (.int .u64 (q 0))).setCell ⟨gb, 7, none⟩ (.int .u64 (q 1))).setCell ⟨gb, 8, none⟩ (.int .u64 (q 2))).setCell ⟨gb, 9, none⟩ (.int .u64 (q 3))).setCell ⟨gb, 10, none⟩ (.int .u64 (q 4))) gb mv f q rd :=
  (((((h.setr (p := 0) (by omega) (q 0)).setr (p := 1) (by omega) (q 1)).setr (p := 2) (by omega) (q 2)).setr (p := 3) (by omega) (q 3)).setr (p := 4) (by omega) (q 4)).ext (fun _ _ => rfl) (fun k hk => by
    rcases (show k = 0 ∨ k = 1 ∨ k = 2 ∨ k = 3 ∨ k = 4 by omega) with rfl | rfl | rfl | rfl | rfl <;> rfl)
end

/-- A group in memory. -/
structure GrpAt (w : World) (gb : Nat) (N : List Nd) (U : Us) (i : Nat) (mb cap : Nat) (Q : List Nat) (f r : Nat → Nat) (rd : Bool) : Prop where
  gb : Gb w gb (.slice (some ⟨mb, 0, none⟩) Q.length cap) f r rd
  row : RowN w mb N U Q
  typ : Typ w mb 32
  cap : Q.length ≤ cap
  gm : GM N i Q f r rd
theorem GrpAt.keep {w w' : World} {gb : Nat} {N : List Nd} {U : Us} {i mb cap : Nat} {Q : List Nat} {f r : Nat → Nat} {rd : Bool} (h : GrpAt w gb N U i mb cap Q f r rd) (he : Exv w w') : GrpAt w' gb N U i mb cap Q f r rd :=
  ⟨h.gb.same (he.keep h.gb.typ (by decide) (by decide) (by decide)), h.row.same (he.keep h.typ (by decide) (by decide) (by decide)), h.typ.same (he.keep h.typ (by decide) (by decide) (by decide)), h.cap, h.gm⟩
def Grp (w : World) (gb : Nat) (N : List Nd) (U : Us) (i : Nat) : Prop := ∃ mb cap Q f r rd, GrpAt w gb N U i mb cap Q f r rd
theorem Grp.keep {w w' : World} {gb : Nat} {N : List Nd} {U : Us} {i : Nat} (h : Grp w gb N U i) (he : Exv w w') : Grp w' gb N U i := by
  obtain ⟨mb, cap, Q, f, r, rd, h⟩ := h; exact ⟨mb, cap, Q, f, r, rd, h.keep he⟩

/-- The finder, its stack and its groups. -/
structure FS (N : List Nd) (U : Us) (fb : Nat) (v0 : Value) (w0 w : World) (s : TS) (gs : List Nat) (sv gv : Value) : Prop where
  bel : Below fb w0 w
  fi : Fi w fb v0 sv gv s.many s.met s.found
  srow : w.ownsRow (fb + 1) 3 1 sv s.stack.length (s.stack.map nv)
  grow : w.ownsRow (fb + 1) 59 1 gv gs.length (gs.map pv)
  grp : ∀ i b, s.found i = some b → Grp w b N U i
  mem : ∀ b, b ∈ gs ↔ ∃ i, s.found i = some b
end Go.Proofs.YtbbnchodchgioaaDoor

/- Plain facts: a group is gathered. -/
namespace Go.Proofs.YtbbnchodchgioaaDoor
set_option linter.unusedVariables false

/-- The ids of some places. -/
def SI (N : List Nd) (S : List Nat) (a : Pid) : Prop := ∃ i ∈ S, (N.getD i nd0).id = a
/-- What a group's places are. -/
structure GS (N : List Nd) (S : List Nat) : Prop where
  lt : ∀ i ∈ S, i < N.length
  nd : S.Nodup
  sc : ∀ i ∈ S, ∀ j, j ∈ S ↔ Sc (EN N) i j
theorem GS.si {N : List Nd} {S : List Nat} (h : GS N S) (hv : nodB N = true) {i : Nat} (hi : i ∈ S) (x : Pid) : SI N S x ↔ Sc (EI N) (N.getD i nd0).id x := by
  constructor
  · rintro ⟨j, hj, rfl⟩
    exact (sc_iff hv (h.lt i hi) (h.lt j hj)).1 ((h.sc i hi j).1 hj)
  · intro hs
    obtain ⟨j, hj, e, hr⟩ := rt_en hv hs.1 i (h.lt i hi) rfl
    subst e
    exact ⟨j, (h.sc i hi j).2 ((sc_iff hv (h.lt i hi) hj).2 hs), rfl⟩
theorem GS.sis {N : List Nd} {S : List Nat} (h : GS N S) (hv : nodB N = true) (a b : Pid) (ha : SI N S a) : SI N S b ↔ Sc (EI N) a b := by
  obtain ⟨i, hi, rfl⟩ := ha; exact h.si hv hi b
theorem GS.place {N : List Nd} {S : List Nat} (h : GS N S) (hv : nodB N = true) {j : Nat} (hj : j < N.length) : SI N S (N.getD j nd0).id ↔ j ∈ S := by
  constructor
  · rintro ⟨i, hi, e⟩
    rw [← nod_inj hv (h.lt i hi) hj e]; exact hi
  · intro hh; exact ⟨j, hh, rfl⟩
theorem GS.len {N : List Nd} {S : List Nat} (h : GS N S) (hv : nodB N = true) : S.length ≤ 12 := by
  have h1 : S.length ≤ (List.range N.length).length := by
    have : ∀ {A B : List Nat}, A.Nodup → (∀ x ∈ A, x ∈ B) → A.length ≤ B.length := by
      intro A
      induction A with
      | nil => intro B _ _; exact Nat.zero_le _
      | cons a A ih =>
        intro B h hs
        have h' := List.nodup_cons.1 h
        obtain ⟨X, Y, rfl⟩ := List.append_of_mem (hs a List.mem_cons_self)
        have := ih (B := X ++ Y) h'.2 fun x hx => by
          have hxx := hs x (List.mem_cons_of_mem _ hx)
          rcases List.mem_append.1 hxx with h1 | h1
          · exact List.mem_append_left _ h1
          · rcases List.mem_cons.1 h1 with e | h1
            · subst e; exact absurd hx h'.1
            · exact List.mem_append_right _ h1
        simp only [List.length_append, List.length_cons] at this ⊢
        omega
    exact this h.nd fun x hx => List.mem_range.2 (h.lt x hx)
  rw [List.length_range] at h1
  have := (nod_of hv).1
  omega

/-- The deps that have been looked at. -/
def depsL (N : List Nd) (Q : List Nat) (j k : Nat) : List Pid := (Q.take j).flatMap (fun i => (N.getD i nd0).deps) ++ (N.getD (Q.getD j 0) nd0).deps.take k
theorem depsL_start (N : List Nd) (Q : List Nat) : depsL N Q 0 0 = [] := by simp [depsL]
theorem depsL_next {N : List Nd} {Q : List Nat} {j k : Nat} (hk : k < (N.getD (Q.getD j 0) nd0).deps.length) : depsL N Q j (k + 1) = depsL N Q j k ++ [(N.getD (Q.getD j 0) nd0).deps.getD k nop] := by
  unfold depsL; rw [take_next hk, List.append_assoc]
theorem depsL_row {N : List Nd} {Q : List Nat} {j : Nat} (hj : j < Q.length) : depsL N Q (j + 1) 0 = depsL N Q j (N.getD (Q.getD j 0) nd0).deps.length := by
  unfold depsL
  rw [List.take_succ_eq_append_getElem hj, List.flatMap_append, List.take_length]
  have : Q.getD j 0 = Q[j] := by rw [List.getD_eq_getElem?_getD, List.getElem?_eq_getElem hj]; rfl
  rw [this]; simp
theorem depsL_all {N : List Nd} {Q : List Nat} {i : Nat} (hi : i ∈ Q) {d : Pid} (hd : d ∈ (N.getD i nd0).deps) : d ∈ depsL N Q Q.length 0 := by
  unfold depsL
  rw [List.take_length]
  exact List.mem_append_left _ (List.mem_flatMap.2 ⟨i, hi, hd⟩)
theorem depsL_sub {N : List Nd} {Q : List Nat} {d : Pid} (h : d ∈ depsL N Q Q.length 0) : ∃ i ∈ Q, d ∈ (N.getD i nd0).deps := by
  unfold depsL at h
  rw [List.take_length, List.take_zero, List.append_nil] at h
  obtain ⟨i, hi, hd⟩ := List.mem_flatMap.1 h
  exact ⟨i, hi, hd⟩

/-- Within gathering: D are the deps that have been looked at, P what is reached so far. -/
structure GL (N : List Nd) (S : List Nat) (D : List Pid) (P : Pid → Prop) (rd : Bool) : Prop where
  snd : ∀ x, P x → ∃ a, SI N S a ∧ Rp (EI N) a x
  cov : ∀ d ∈ D, d ∈ idsN N → P d ∧ (¬ SI N S d → ∀ x, Rp (EI N) d x → P x)
  rdy : rd = true ↔ ∀ d ∈ D, d ∈ idsN N ∧ (¬ SI N S d → RdI N d)
theorem GL.start (N : List Nd) (S : List Nat) : GL N S [] (fun _ => False) true := ⟨fun _ h => h.elim, fun _ h => (nomatch h), ⟨fun _ _ h => (nomatch h), fun _ => rfl⟩⟩
theorem GL.miss {N : List Nd} {S : List Nat} {D : List Pid} {P : Pid → Prop} {rd : Bool} (h : GL N S D P rd) {d : Pid} (hd : ¬ d ∈ idsN N) : GL N S (D ++ [d]) P false := by
  refine ⟨h.snd, fun e he hi => ?_, ⟨fun x => (nomatch x), fun x => absurd (x d (List.mem_append_right _ (List.mem_singleton.2 rfl))).1 hd⟩⟩
  rcases List.mem_append.1 he with he | he
  · exact h.cov e he hi
  · rw [List.mem_singleton] at he; subst he; exact absurd hi hd
theorem GL.own {N : List Nd} {S : List Nat} {D : List Pid} {P : Pid → Prop} {rd : Bool} (h : GL N S D P rd) {a d : Pid} (ha : SI N S a) (hE : EI N a d) (hs : SI N S d) : GL N S (D ++ [d]) (fun x => (P x ∨ x = d) ∨ (P x ∨ x = d)) (rd && rd) := by
  refine ⟨fun x hx => ?_, fun e he hi => ?_, ?_⟩
  · rw [or_self] at hx
    rcases hx with hx | hx
    · exact h.snd x hx
    · subst hx; exact ⟨a, ha, .one hE⟩
  · rcases List.mem_append.1 he with he | he
    · have := h.cov e he hi
      exact ⟨.inl (.inl this.1), fun hn x hx => .inl (.inl (this.2 hn x hx))⟩
    · rw [List.mem_singleton] at he; subst he
      exact ⟨.inl (.inr rfl), fun hn => absurd hs hn⟩
  · rw [Bool.and_self, h.rdy]
    constructor
    · intro x e he
      rcases List.mem_append.1 he with he | he
      · exact x e he
      · rw [List.mem_singleton] at he; subst he; exact ⟨hE.r, fun hn => absurd hs hn⟩
    · intro x e he; exact x e (List.mem_append_left _ he)
theorem GL.oth {N : List Nd} {S : List Nat} {D : List Pid} {P : Pid → Prop} {rd rd2 : Bool} (h : GL N S D P rd) {a d : Pid} (ha : SI N S a) (hE : EI N a d) (hs : ¬ SI N S d) (h2 : rd2 = true ↔ RdI N d) : GL N S (D ++ [d]) (fun x => (P x ∨ x = d) ∨ Rp (EI N) d x) (rd && rd2) := by
  refine ⟨fun x hx => ?_, fun e he hi => ?_, ?_⟩
  · rcases hx with (hx | hx) | hx
    · exact h.snd x hx
    · subst hx; exact ⟨a, ha, .one hE⟩
    · exact ⟨a, ha, (Rp.one hE).rt_r hx.rt⟩
  · rcases List.mem_append.1 he with he | he
    · have := h.cov e he hi
      exact ⟨.inl (.inl this.1), fun hn x hx => .inl (.inl (this.2 hn x hx))⟩
    · rw [List.mem_singleton] at he; subst he
      exact ⟨.inl (.inr rfl), fun hn x hx => .inr hx⟩
  · rw [Bool.and_eq_true, h.rdy, h2]
    constructor
    · rintro ⟨x, y⟩ e he
      rcases List.mem_append.1 he with he | he
      · exact x e he
      · rw [List.mem_singleton] at he; subst he; exact ⟨hE.r, fun _ => y⟩
    · intro x
      exact ⟨fun e he => x e (List.mem_append_left _ he), (x d (List.mem_append_right _ (List.mem_singleton.2 rfl))).2 hs⟩
/-- All have been looked at. -/
theorem GL.done {N : List Nd} {S Q : List Nat} {f r : Nat → Nat} {P : Pid → Prop} {rd : Bool} (hv : nodB N = true) (hS : GS N S) (hQ : Q.Perm S) (hs : Q.Pairwise (soonK N)) (hf : Bits f (SI N S)) (hr : Bits r P)
    (h : GL N S (depsL N Q Q.length 0) P rd) {i : Nat} (hi : i ∈ S) : GM N i Q f r rd := by
  have ha : SI N S (N.getD i nd0).id := ⟨i, hi, rfl⟩
  have hd : ∀ a, SI N S a → ∀ b, EI N a b → b ∈ depsL N Q Q.length 0 := by
    rintro a ⟨j, hj, rfl⟩ b ⟨_, y, hy, e, hb⟩
    rw [getD_uniq hv hy (getD_mem (hS.lt j hj)) e] at hb
    exact depsL_all (hQ.mem_iff.2 hj) hb
  refine ⟨hs, fun k => by rw [hQ.mem_iff]; exact hS.sc i hi k, hf.ext fun x => hS.si hv hi x, hr.ext fun x => gat_reach hv (hS.sis hv) h.snd (fun a ha b hb => h.cov b (hd a ha b hb) hb.r) ha x, ?_⟩
  rw [h.rdy, gat_ready (hS.sis hv) ha]
  constructor
  · intro x b hb
    refine ⟨fun y hy e d hd' => ?_, fun c hc hn => (x c (hd b hb c hc)).2 hn⟩
    obtain ⟨j, hj, rfl⟩ := hb
    rw [getD_uniq hv hy (getD_mem (hS.lt j hj)) e] at hd'
    exact (x d (depsL_all (hQ.mem_iff.2 hj) hd')).1
  · intro x d hd'
    obtain ⟨j, hj, hdj⟩ := depsL_sub hd'
    have hj' := hQ.mem_iff.1 hj
    have hb : SI N S (N.getD j nd0).id := ⟨j, hj', rfl⟩
    have hdi := (x _ hb).1 _ (getD_mem (hS.lt j hj')) rfl d hdj
    exact ⟨hdi, fun hn => (x _ hb).2 d ⟨hdi, _, getD_mem (hS.lt j hj'), rfl, hdj⟩ hn⟩
theorem srd_pair {N : List Nd} {Q0 Q : List Nat} (h : Srd N Q0 Q Q0.length) : Q.Pairwise (soonK N) := by
  have hl := h.perm.length_eq
  rw [List.pairwise_iff_getElem]
  intro i j hi hj hij
  have := h.ord i j hij (by omega)
  rw [List.getD_eq_getElem?_getD, List.getD_eq_getElem?_getD, List.getElem?_eq_getElem hi, List.getElem?_eq_getElem hj] at this
  exact this
/-- The ids so far. -/
theorem si_next {N : List Nd} {S : List Nat} {k : Nat} (hk : k < S.length) {f : Nat → Nat} (h : Bits f (SI N (S.take k))) (ho : okP (N.getD (S.getD k 0) nd0).id = true) : Bits (addF f (N.getD (S.getD k 0) nd0).id) (SI N (S.take (k + 1))) := by
  refine (h.add ho).ext fun x => ?_
  have e : S.getD k 0 = S[k] := by rw [List.getD_eq_getElem?_getD, List.getElem?_eq_getElem hk]; rfl
  unfold SI
  rw [List.take_succ_eq_append_getElem hk, e]
  constructor
  · rintro (⟨i, hi, h⟩ | h)
    · exact ⟨i, List.mem_append_left _ hi, h⟩
    · exact ⟨_, List.mem_append_right _ (List.mem_singleton.2 rfl), h.symm⟩
  · rintro ⟨i, hi, h⟩
    rcases List.mem_append.1 hi with hi | hi
    · exact .inl ⟨i, hi, h⟩
    · rw [List.mem_singleton] at hi; subst hi; exact .inr h.symm
end Go.Proofs.YtbbnchodchgioaaDoor

/- A queue of ids: taken from ahead, appended behind. -/
namespace Go.Proofs.YtbbnchodchgioaaDoor
open Go.RowKit
set_option linter.unusedVariables false

theorem setCells_exc (g : Nat) : ∀ (vs : List Value) (o : Nat) (w : World), Exc (fun b => b = g) w (w.setCells g o vs)
  | [], o, w => Exc.refl _ _
  | v :: r, o, w => ((Exc.refl (fun b => b = g) w).set (b := g) (.inl rfl) o v).trans (setCells_exc g r (o + 1) _) (fun b _ h => h)
theorem setCells_size (g : Nat) : ∀ (vs : List Value) (o : Nat) (w : World), (w.setCells g o vs).heap.size = w.heap.size
  | [], o, w => rfl
  | v :: r, o, w => by
    show ((w.setCell ⟨g, o, none⟩ v).setCells g (o + 1) r).heap.size = _
    rw [setCells_size g r]; exact World.size_setCell _ _ _

/-- A slice of ids at some place of a block. -/
def Que (w : World) (g : Nat) (v : Value) (L : List Pid) : Prop :=
  ∃ off cap, v = .slice (some ⟨g, off, none⟩) L.length cap ∧ g < w.heap.size ∧ L.length ≤ cap ∧ cap ≤ maxLen ∧ (∀ j, j < L.length * 2 → w.cell? ⟨g, off + j, none⟩ = (flatP L)[j]?) ∧ ∀ j, j < cap * 2 → (w.cell? ⟨g, off + j, none⟩).isSome = true ∧ w.frozen? ⟨g, off + j, none⟩ = false
theorem Que.lt {w : World} {g : Nat} {v : Value} {L : List Pid} (h : Que w g v L) : g < w.heap.size := by obtain ⟨_, _, _, h, _⟩ := h; exact h
theorem Que.shape {w : World} {g : Nat} {v : Value} {L : List Pid} (h : Que w g v L) : ∃ off cap, v = .slice (some ⟨g, off, none⟩) L.length cap ∧ L.length ≤ cap := by obtain ⟨o, c, e, _, h, _⟩ := h; exact ⟨o, c, e, h⟩
theorem Que.same {w w' : World} {g : Nat} {v : Value} {L : List Pid} (h : Que w g v L) (hb : w'.heap[g]? = w.heap[g]?) (hs : w.heap.size ≤ w'.heap.size) : Que w' g v L := by
  obtain ⟨off, cap, e, h2, h3, h4, h5, h6⟩ := h
  refine ⟨off, cap, e, Nat.lt_of_lt_of_le h2 hs, h3, h4, fun j hj => ?_, fun j hj => ?_⟩
  · rw [World.cell?_of_block (a := ⟨g, off + j, none⟩) hb]; exact h5 j hj
  · rw [World.cell?_of_block (a := ⟨g, off + j, none⟩) hb, World.frozen?_of_block (a := ⟨g, off + j, none⟩) hb]; exact h6 j hj
theorem Que.up {w w' : World} {g : Nat} {v : Value} {L : List Pid} (h : Que w g v L) (hb : Below w.heap.size w w') : Que w' g v L := h.same (hb.block g h.lt) hb.size
theorem que_new (w : World) : Que (w.alloc (.cells #[] 25)) w.heap.size (.slice (some ⟨w.heap.size, 0, none⟩) 0 0) [] :=
  ⟨0, 0, rfl, by simp, Nat.le_refl _, Nat.zero_le _, fun j hj => absurd hj (by simp), fun j hj => absurd hj (by simp)⟩
theorem Que.read {w : World} {g : Nat} {v : Value} {L : List Pid} (h : Que w g v L) (hl : L.length ≤ 2000000) : Ids w v L := by
  obtain ⟨off, cap, rfl, h2, h3, h4, h5, h6⟩ := h
  refine ⟨_, cap, rfl, h3, hl, .inr ⟨g, off, rfl, h2, fun i hi => ?_⟩⟩
  have := flatP_get L i hi
  rw [show (⟨g, off + i * 2 + 1, none⟩ : Addr) = ⟨g, off + (i * 2 + 1), none⟩ from rfl, h5 _ (by omega), h5 _ (by omega)]
  exact this
/-- The first one is taken. -/
theorem Que.pop {w : World} {g off cap : Nat} {a : Pid} {L : List Pid} (h : Que w g (.slice (some ⟨g, off, none⟩) (L.length + 1) cap) (a :: L)) :
    (cap ≠ 1 → Que w g (.slice (some ⟨g, off + 2, none⟩) L.length (cap - 1)) L) ∧ (cap = 1 → Que w g (.slice (some ⟨g, off, none⟩) L.length 0) L) := by
  obtain ⟨off', cap', e, h2, h3, h4, h5, h6⟩ := h
  injection e with e1 e2 e3
  injection e1 with e1
  injection e1 with e4 e5
  subst e3; subst e5
  have hs : ∀ j, (flatP (a :: L))[j + 2]? = (flatP L)[j]? := fun j => by simp [flatP, idv]
  have h3' : L.length + 1 ≤ cap := by simpa using h3
  constructor
  · intro hc
    refine ⟨off + 2, cap - 1, rfl, h2, by omega, by omega, fun j hj => ?_, fun j hj => ?_⟩
    · rw [Nat.add_assoc, Nat.add_comm 2 j, h5 (j + 2) (by simp; omega), hs]
    · rw [Nat.add_assoc, Nat.add_comm 2 j]; exact h6 (j + 2) (by omega)
  · intro hc
    have : L = [] := List.eq_nil_of_length_eq_zero (by omega)
    subst this
    exact ⟨off, 0, rfl, h2, by simp, by omega, fun j hj => absurd hj (by simp), fun j hj => absurd hj (by simp)⟩

/-- Ids as what is appended. -/
theorem ids_src {P : Program} {w : World} {v : Value} {M : List Pid} {t e : TypeId} (hk : P.underlying t = some (.slice e)) (h : Ids w v M) : Src P 2 t v M.length (flatP M) w := by
  obtain ⟨a, cap, rfl, h1, h2, h3⟩ := h
  cases a with
  | none =>
    rcases h3 with h3 | ⟨b, off, e, _⟩
    · have : M = [] := List.eq_nil_of_length_eq_zero h3
      subst this
      exact Src.ofNil w hk cap
    · cases e
  | some a =>
    refine Src.ofSlice w hk a M.length cap (flatP M) (flatP_len M) (fun j u hu => ?_) (flatP_one M)
    rcases h3 with h3 | ⟨b, off, e, _, h4⟩
    · have : M = [] := List.eq_nil_of_length_eq_zero h3
      subst this
      simp [flatP] at hu
    · cases e
      have hj : j < M.length * 2 := by
        have := (List.getElem?_eq_some_iff.1 hu).1
        rw [flatP_len] at this; exact this
      obtain ⟨q1, q2⟩ := h4 (j / 2) (by omega)
      obtain ⟨r1, r2⟩ := flatP_get M (j / 2) (by omega)
      rw [Addr.add_lit]
      rcases Nat.mod_two_eq_zero_or_one j with e | e
      · have ej : j / 2 * 2 = j := by omega
        rw [ej] at q1 r1
        rw [q1, ← r1]; exact hu
      · have ej : j / 2 * 2 + 1 = j := by omega
        rw [Nat.add_assoc, ej] at q2; rw [ej] at r2
        rw [q2, ← r2]; exact hu

/-- Ids are appended. -/
theorem run_append_que {P : Program} (w : World) (g : Nat) (t ty : TypeId) (i : TypeInfo) (ht : P.underlying t = some (.slice 25)) (hi : P.info? 25 = some i) (hz : i.zero = some (.agg #[.int .i64 0, .int .i64 0])) (hs : i.size = 2) (hby : i.bytes = 16)
    {v x : Value} {L M : List Pid} (hq : Que w g v L) (hM : Ids w x M) (hl : L.length + M.length ≤ 1000000) :
    ∃ v' w', (Builtin.append_ #[t, t] ty #[v, x]).run P w = .ok v' w' ∧ ∃ g', (g' = g ∨ w.heap.size ≤ g') ∧ Que w' g' v' (L ++ M) ∧ Exc (fun b => b = g) w w' := by
  have src := ids_src ht hM
  obtain ⟨off, cap, rfl, h2, h3, h4, h5, h6⟩ := hq
  have fl := flatP_len M
  by_cases hr : L.length + M.length ≤ cap
  · have hsome : ∀ j, j < (flatP M).length → (w.cell? ⟨g, off + L.length * 2 + j, none⟩).isSome = true := fun j hj => by rw [Nat.add_assoc]; exact (h6 _ (by omega)).1
    have hrun := run_append_room_src (P := P) w t t ty _ i ht hi g off L.length cap x M.length (flatP M) (by rw [hs]; exact src) hr
      (fun j hj => by rw [hs]; exact hsome j hj) (fun j hj => by rw [hs, Nat.add_assoc]; exact (h6 _ (by omega)).2)
    rw [hs] at hrun
    have hin := World.cell?_setCells_in g (flatP M) (off + L.length * 2) w hsome
    refine ⟨_, _, hrun, g, .inl rfl, ⟨off, cap, by rw [List.length_append], by rw [setCells_size]; exact h2, by rw [List.length_append]; exact hr, h4, fun j hj => ?_, fun j hj => ⟨?_, ?_⟩⟩, setCells_exc g _ _ _⟩
    · rw [flatP_app]
      rw [List.length_append] at hj
      by_cases hjl : j < L.length * 2
      · rw [World.cell?_setCells_out g _ _ _ _ (fun _ _ => Or.inl (by show off + j < off + L.length * 2; omega)), List.getElem?_append_left (by rw [flatP_len]; exact hjl)]
        exact h5 j hjl
      · have := hin (j - L.length * 2) (by omega)
        rw [show off + L.length * 2 + (j - L.length * 2) = off + j by omega] at this
        rw [List.getElem?_append_right (by rw [flatP_len]; omega), flatP_len]; exact this.trans (List.getElem?_eq_getElem (by omega)).symm
    · by_cases hjl : L.length * 2 ≤ j ∧ j < L.length * 2 + M.length * 2
      · have := hin (j - L.length * 2) (by omega)
        rw [show off + L.length * 2 + (j - L.length * 2) = off + j by omega] at this
        rw [this]; rfl
      · rw [World.cell?_setCells_out g _ _ _ _ (fun _ _ => by show off + j < off + L.length * 2 ∨ off + L.length * 2 + (flatP M).length ≤ off + j; omega)]
        exact (h6 j hj).1
    · rw [World.frozen?_setCells]; exact (h6 j hj).2
  · have hold : (Builtin.firstCells i.size L.length (.slice (some ⟨g, off, none⟩) L.length cap)).run P w.drew = .ok (flatP L).toArray w.drew := by
      rw [hs]
      refine run_firstCells_some w.drew 2 L.length ⟨g, off, none⟩ L.length cap (flatP L) (flatP_len L) (fun j u hu => ?_)
      rw [Addr.add_lit]
      have hj := (List.getElem?_eq_some_iff.1 hu).1
      rw [flatP_len] at hj
      exact (h5 j hj).trans hu
    have hrun := run_append_grow_src (P := P) w t t ty _ i _ ht hi hz (some ⟨g, off, none⟩) L.length cap (flatP L) hold x M.length (flatP M) (by rw [hs]; exact src) (by omega) (by omega) (by rw [hby]; exact growslice_fits (by omega) (by omega))
    have hge := grownCap_ge w (L.length + M.length) cap 25
    have hcm := grownCap_le_maxLen w (L.length + M.length) cap 25 (by unfold maxLen; omega)
    have hcell : ∀ j, (w.drew.alloc (.cells ((flatP L ++ flatP M).toArray ++ Builtin.zeroCells (Value.cells (.agg #[.int .i64 0, .int .i64 0])) (grownCap w (L.length + M.length) cap 25 - (L.length + M.length))) 25)).cell? ⟨w.heap.size, 0 + j, none⟩ = ((flatP L ++ flatP M).toArray ++ Builtin.zeroCells (Value.cells (.agg #[.int .i64 0, .int .i64 0])) (grownCap w (L.length + M.length) cap 25 - (L.length + M.length)))[j]? := fun j => by
      rw [Nat.zero_add]; exact World.cell?_alloc_new w.drew _ _ j
    have hsz : ((flatP L ++ flatP M).toArray ++ Builtin.zeroCells (Value.cells (.agg #[.int .i64 0, .int .i64 0])) (grownCap w (L.length + M.length) cap 25 - (L.length + M.length))).size = grownCap w (L.length + M.length) cap 25 * 2 := by
      rw [Array.size_append, List.size_toArray, List.length_append, flatP_len, flatP_len, size_zeroCells]
      show _ + _ * 2 = _
      omega
    refine ⟨_, _, hrun, w.heap.size, .inr (Nat.le_refl _), ⟨0, _, by rw [List.length_append], by simp, by rw [List.length_append]; exact hge, hcm, fun j hj => ?_, fun j hj => ⟨?_, ?_⟩⟩, ((Exc.refl _ w).drew).alloc _⟩
    · rw [hcell, flatP_app]
      rw [List.length_append] at hj
      rw [Array.getElem?_append_left (by simp only [List.size_toArray, List.length_append, flatP_len]; omega), List.getElem?_toArray]
    · rw [hcell, Array.getElem?_eq_getElem (by rw [hsz]; exact hj)]; rfl
    · exact World.frozen?_alloc_new w.drew _ _ _

theorem wpList_append_que {P : Program} (w : World) {ops : Array Oper} {rest : List Oper} {o : Oper} {a : Act} {Q : Exit → Act → World → Prop} (hgd : o.guard = none) (s x : Operand) (t : TypeId)
    (ho : o.op = .call { callee := .builtin .append, args := #[s, x], argTypes := #[t, t] }) (g : Nat) (i : TypeInfo) (ht : P.underlying t = some (.slice 25)) (hi : P.info? 25 = some i) (hz : i.zero = some (.agg #[.int .i64 0, .int .i64 0])) (hs : i.size = 2) (hby : i.bytes = 16)
    (v xv : Value) (L M : List Pid) (hv : a.eval s = v) (hx : a.eval x = xv) (hq : Que w g v L) (hM : Ids w xv M) (hl : L.length + M.length ≤ 1000000)
    (h : ∀ v' w' g', Hid ((g' = g ∨ w.heap.size ≤ g') ∧ Que w' g' v' (L ++ M) ∧ Exc (fun b => b = g) w w') → wpList P ops Q rest (a.put o.dst v') w') : wpList P ops Q (o :: rest) a w := by
  refine wpList_plain hgd fun K hK => ?_
  obtain ⟨v', w', hr, g', h1, h2, h3⟩ := run_append_que (P := P) w g t o.type i ht hi hz hs hby hq hM hl
  unfold Oper.wp execOp
  simp only [ho, resolve, invoke, builtin, Sem.run_bind, Sem.run_pure, Result.andThen_ok, List.map_toArray, List.map_cons, List.map_nil, hv, hx, hr]
  exact hK _ _ (h v' w' g' (Lib.hid ⟨h1, h2, h3⟩))
end Go.Proofs.YtbbnchodchgioaaDoor
