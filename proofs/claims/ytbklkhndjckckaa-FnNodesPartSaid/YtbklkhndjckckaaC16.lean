/- Texts laid together. -/
import Derived.Test.YtbklkhndjckckaaC15
import Derived.Test.YtbklkhndjckckaaC01
import Derived.Deep.Slices
import Derived.Test.YtbklkhndjckckaaC08
import Derived.Test.YtbklkhndjckckaaC09
import Derived.Deep.RegionWith
import Derived.Deep.RegionHeld3
import Derived.Deep.RegionLaw
import Derived.Maps.AppendAt
import Derived.Test.YtbklkhndjckckaaC07
/- What the frames of laws over slices of ids use. -/
namespace Go.Proofs.Ytbklkhndjckckaa
open Go.ChangeShapes Go.WideShapes Go.ChangeAt Go.RowKit Go.Joins Go.Deep
set_option linter.unusedVariables false

/-- What a law is told of a slice of ids that came in. -/
def IdsIn (w : World) (a : Option Addr) (len cap : Nat) : Prop := len ≤ maxLen ∧ (1048576 < len ∨ ∃ C, Ids w (.slice a len cap) C)

theorem ids_of_fn {w : World} {x : Addr} {len cap : Nat} (f : Nat → Pid) (hl : len ≤ cap) (hm : cap ≤ maxLen)
    (h : ∀ i, i < len → w.cell? (x.add (i * 2)) = some (.int .i64 (f i).1) ∧ w.cell? (x.add (i * 2 + 1)) = some (.int .i64 (f i).2)) :
    IdsIn w (some x) len cap := by
  refine ⟨Nat.le_trans hl hm, ?_⟩
  by_cases hb : 1048576 < len
  · exact .inl hb
  · have hlen : ((List.range len).map f).length = len := by simp
    refine .inr ⟨(List.range len).map f, some x, cap, by rw [hlen], by omega, by omega, ?_⟩
    rw [hlen]
    by_cases h0 : len = 0
    · exact .inl h0
    · obtain ⟨b, off, spot⟩ := x
      have hc := (h 0 (by omega)).1
      have hspot : spot = none := by simpa [Addr.add] using World.cell?_spot hc
      subst hspot
      have ea : ∀ j, (⟨b, off, none⟩ : Addr).add j = ⟨b, off + j, none⟩ := fun j => by unfold Addr.add; split <;> simp_all
      refine .inr ⟨b, off, rfl, ?_, fun i hi => ?_⟩
      · have := World.block_lt_of_cell? w _ hc
        simpa [Addr.add] using this
      · have h1 := h i hi
        rw [ea, ea] at h1
        have hg : ((List.range len).map f).getD i nop = f i := by
          rw [List.getD_eq_getElem?_getD, List.getElem?_map, List.getElem?_range hi]; rfl
        rw [hg, Nat.add_assoc]
        exact h1

theorem int_of_trodP {H : Type} {enc : TypeId × Value → H} {w : World} {base : Nat} {spare : Nat → Bool} {held : Bool} {n : Nat} {v : Value} {y : DataW H × List MemPlace} (h : DataW.trod enc Try.prog w base spare held n 3 [v] = some y) : ∃ z, v = .int .i64 z := by obtain ⟨z, e, _, _⟩ := DataW.trod_int Try.underlying3 h; simp at e; exact ⟨z, e⟩

set_option maxRecDepth 100000 in
theorem ids_of_trod {H : Type} {enc : TypeId × Value → H} {w : World} {fuel : Nat} {a : Option Addr} {len cap : Nat} {x : DataW H × List MemPlace} (h : DataW.trod enc Try.prog w 0 (fun _ => true) true fuel 76 [.slice a len cap] = some x) : IdsIn w a len cap := by
  rcases open_slice Try.underlying76 h with ⟨hcs, _⟩ | ⟨a', len', cap', m, n, D, Pl, hcs, _, hl, hm, hmm, _, hx⟩
  · simp at hcs
    obtain ⟨rfl, rfl, rfl⟩ := hcs
    exact ⟨Nat.zero_le _, .inr ⟨[], none, 0, rfl, Nat.le_refl _, Nat.zero_le _, .inl rfl⟩⟩
  · simp at hcs
    obtain ⟨rfl, rfl, rfl⟩ := hcs
    simp at hmm
    subst hmm
    have each : ∀ i, i < len → ∃ c : Pid, w.cell? (a'.add (i * 2)) = some (.int .i64 c.1) ∧ w.cell? (a'.add (i * 2 + 1)) = some (.int .i64 c.2) := by
      intro i hi
      obtain ⟨cs', h1, h2⟩ := hx i (by omega)
      rw [cells_lawsId] at h1
      obtain ⟨_, hlen, hcell⟩ := World.cells?_some h1
      obtain ⟨xs, k, hk, hxy, _, hxl, hf⟩ := DataW.trod_struct Try.underlying44 h2
      match xs, hxl, cs', hlen with
      | [y0, y1], _, [v0, v1], _ =>
        have g0 := hf 0 _ rfl
        have g1 := hf 1 _ rfl
        have ci : Try.prog.cellsOf 3 = 1 := by kernel_rfl
        simp [ci] at g0 g1
        obtain ⟨z0, rfl⟩ := int_of_trodP g0
        obtain ⟨z1, rfl⟩ := int_of_trodP g1
        have e0 := hcell 0 (by omega)
        have e1 := hcell 1 (by omega)
        rw [add_add] at e0 e1
        exact ⟨(z0, z1), by simpa using e0, by simpa using e1⟩
    haveI : Inhabited Pid := ⟨nop⟩
    obtain ⟨f, hf⟩ := choose_lt (α := Pid) each
    exact ids_of_fn f hl hm hf
end Go.Proofs.Ytbklkhndjckckaa

/- What the frames of laws over slices of nodes use. -/
namespace Go.Proofs.Ytbklkhndjckckaa
open Go.ChangeShapes Go.WideShapes Go.ChangeAt Go.RowKit Go.Joins Go.Deep
set_option linter.unusedVariables false

theorem lns_of_fn {w : World} {x : Addr} {len cap : Nat} (hl : len ≤ cap) (hm : cap ≤ maxLen)
    (h : ∀ i, i < len → ∃ (p r s : Int) (ua : Option Addr) (un uc : Nat), w.cell? (x.add (i * 4)) = some (.int .i64 p) ∧ w.cell? (x.add (i * 4 + 1)) = some (.int .i64 r) ∧ w.cell? (x.add (i * 4 + 2)) = some (.int .i64 s) ∧ w.cell? (x.add (i * 4 + 3)) = some (.slice ua un uc) ∧ un ≤ maxLen ∧ (1048576 < un ∨ ∃ C, Ids w (.slice ua un uc) C)) :
    LNs w (some x) len cap := by
  refine ⟨Nat.le_trans hl hm, hl, ?_⟩
  by_cases h0 : len = 0
  · exact .inl h0
  · obtain ⟨b, off, spot⟩ := x
    obtain ⟨_, _, _, _, _, _, hc, _⟩ := h 0 (by omega)
    have hspot : spot = none := by simpa [Addr.add] using World.cell?_spot hc
    subst hspot
    have ea : ∀ j, (⟨b, off, none⟩ : Addr).add j = ⟨b, off + j, none⟩ := fun j => by unfold Addr.add; split <;> simp_all
    refine .inr ⟨b, off, rfl, ?_, fun i hi => ?_⟩
    · have := World.block_lt_of_cell? w _ hc
      simpa [Addr.add] using this
    · have h1 := h i hi
      rw [ea, ea, ea, ea] at h1
      exact h1

set_option maxRecDepth 100000 in
theorem id_of_trod {H : Type} {enc : TypeId × Value → H} {w : World} {base : Nat} {spare : Nat → Bool} {held : Bool} {n : Nat} {v0 v1 : Value} {y : DataW H × List MemPlace} (h : DataW.trod enc Try.prog w base spare held n 44 [v0, v1] = some y) : ∃ p r, v0 = .int .i64 p ∧ v1 = .int .i64 r := by
  obtain ⟨xs, k, hk, hxy, _, hxl, hf⟩ := DataW.trod_struct Try.underlying44 h
  match xs, hxl with
  | [y0, y1], _ =>
    have g0 := hf 0 _ rfl
    have g1 := hf 1 _ rfl
    have ci : Try.prog.cellsOf 3 = 1 := by kernel_rfl
    simp [ci] at g0 g1
    obtain ⟨z0, rfl⟩ := int_of_trodP g0
    obtain ⟨z1, rfl⟩ := int_of_trodP g1
    exact ⟨z0, z1, rfl, rfl⟩

theorem idsv_of_trod {H : Type} {enc : TypeId × Value → H} {w : World} {fuel : Nat} {v : Value} {x : DataW H × List MemPlace} (h : DataW.trod enc Try.prog w 0 (fun _ => true) true fuel 76 [v] = some x) : ∃ ua un uc, v = .slice ua un uc ∧ IdsIn w ua un uc := by
  rcases open_slice Try.underlying76 h with ⟨hcs, _⟩ | ⟨a', len', cap', m, n, D, Pl, hcs, _⟩
  · simp at hcs
    subst hcs
    exact ⟨_, _, _, rfl, ids_of_trod h⟩
  · simp at hcs
    subst hcs
    exact ⟨_, _, _, rfl, ids_of_trod h⟩

set_option maxRecDepth 100000 in
theorem lns_of_trod {H : Type} {enc : TypeId × Value → H} {w : World} {fuel : Nat} {a : Option Addr} {len cap : Nat} {x : DataW H × List MemPlace} (h : DataW.trod enc Try.prog w 0 (fun _ => true) true fuel 39 [.slice a len cap] = some x) : LNs w a len cap := by
  rcases open_slice Try.underlying39 h with ⟨hcs, _⟩ | ⟨a', len', cap', m, n, D, Pl, hcs, _, hl, hm, hmm, _, hx⟩
  · simp at hcs
    obtain ⟨rfl, rfl, rfl⟩ := hcs
    exact ⟨Nat.zero_le _, Nat.le_refl _, .inl rfl⟩
  · simp at hcs
    obtain ⟨rfl, rfl, rfl⟩ := hcs
    simp at hmm
    subst hmm
    refine lns_of_fn hl hm fun i hi => ?_
    obtain ⟨cs', h1, h2⟩ := hx i (by omega)
    have cn : Try.prog.cellsOf 78 = 4 := by kernel_rfl
    rw [cn] at h1
    obtain ⟨_, hlen, hcell⟩ := World.cells?_some h1
    obtain ⟨xs, k, hk, hxy, _, hxl, hf⟩ := DataW.trod_struct Try.underlying78 h2
    match xs, hxl, cs', hlen with
    | [y0, y1, y2], _, [v0, v1, v2, v3], _ =>
      have g0 := hf 0 _ rfl
      have g1 := hf 1 _ rfl
      have g2 := hf 2 _ rfl
      have ci : Try.prog.cellsOf 3 = 1 := by kernel_rfl
      have cs : Try.prog.cellsOf 76 = 1 := by kernel_rfl
      simp [ci, cs, cells_lawsId] at g0 g1 g2
      obtain ⟨p, r, rfl, rfl⟩ := id_of_trod g0
      obtain ⟨s, rfl⟩ := int_of_trodP g1
      obtain ⟨ua, un, uc, rfl, hu1, hu2⟩ := idsv_of_trod g2
      have e0 := hcell 0 (by omega)
      have e1 := hcell 1 (by omega)
      have e2 := hcell 2 (by omega)
      have e3 := hcell 3 (by omega)
      rw [add_add] at e0 e1 e2 e3
      exact ⟨p, r, s, ua, un, uc, by simpa using e0, by simpa using e1, by simpa using e2, by simpa using e3, hu1, hu2⟩
end Go.Proofs.Ytbklkhndjckckaa

/- Draws of nodes: rows of nodes that are being built. -/
namespace Go.Proofs.Ytbklkhndjckckaa
open Go.RowKit
set_option linter.unusedVariables false

theorem Row.stays {w w' : World} {B r : Nat} {v : Value} {O : List Pid} (h : Row w B v O) (hk : Keep w.heap.size r w w') (hr : r < B) : Row w' B v O := ⟨row_keep h.1 hk hr, h.2⟩
theorem Rd.drewS {w : World} {r n : Nat} (h : Rd w r n) : Rd w.drew r n := h.kept ⟨rfl, rfl, rfl, Nat.le_refl _, fun _ _ => rfl⟩
theorem Keep.drewS {B r : Nat} {a w : World} (h : Keep B r a w) : Keep B r a w.drew := ⟨h.os, h.tape, h.output, h.size, h.block⟩
/-- A block's kind. -/
def TyB (w : World) (b : Nat) (t : TypeId) : Prop := ∃ cur, w.heap[b]? = some (.cells cur t (0, 0))
theorem TyB.ne {w : World} {b c : Nat} {t u : TypeId} (h : TyB w b t) (g : TyB w c u) (hn : t ≠ u) : b ≠ c := fun e => by
  obtain ⟨_, h⟩ := h; obtain ⟨_, g⟩ := g; subst e; rw [h] at g; simp at g; exact hn g.2
theorem TyB.lt {w : World} {b : Nat} {t : TypeId} (h : TyB w b t) : b < w.heap.size := by obtain ⟨_, h⟩ := h; exact lt_of_heap h
theorem TyB.same {w w' : World} {b : Nat} {t : TypeId} (h : TyB w b t) (e : w'.heap[b]? = w.heap[b]?) : TyB w' b t := by obtain ⟨c, h⟩ := h; exact ⟨c, e.trans h⟩
theorem ownr_typ {w : World} {B : Nat} {e : TypeId} {size : Nat} {v : Value} {n : Nat} {xs : List Value} (h : w.ownsRow B e size v n xs) {k : Nat} (hk : v.ownBlock = some k) : TyB w k e ∧ B ≤ k := by
  rcases h.2 with ⟨rfl, _⟩ | ⟨g, cap, cur, rfl, hb, hg, _⟩
  · simp [Value.ownBlock] at hk
  · simp [Value.ownBlock] at hk; subst hk; exact ⟨⟨cur, hg⟩, hb⟩
theorem ownr_same {w w' : World} {B : Nat} {e : TypeId} {size : Nat} {v : Value} {n : Nat} {xs : List Value} (h : w.ownsRow B e size v n xs) (hs : ∀ k, v.ownBlock = some k → w'.heap[k]? = w.heap[k]?) : w'.ownsRow B e size v n xs := by
  refine ⟨h.1, ?_⟩
  rcases h.2 with hn | ⟨g, cap, cur, rfl, hb, hg, rest⟩
  · exact .inl hn
  · exact .inr ⟨g, cap, cur, rfl, hb, (hs g rfl).trans hg, rest⟩
theorem Row.ownT {w : World} {B : Nat} {v : Value} {O : List Pid} (h : Row w B v O) (hl : O.length ≤ 2000000) : ∃ b, B ≤ b ∧ TyB w b 31 ∧ OwnP w b v O := by
  obtain ⟨b, hb, hO⟩ := h.own hl
  have e : v.ownBlock = some b := by obtain ⟨c, rfl, _⟩ := hO.shape; rfl
  exact ⟨b, hb, (ownr_typ h.1 e).1, hO⟩

/-- Nodes with the values of their lists. -/
abbrev DL : Type := List (Nd × Value)
def dcell (x : Nd × Value) : List Value := [.int .i64 x.1.id.1, .int .i64 x.1.id.2, .int .i64 x.1.seq, x.2]
def flatD : DL → List Value
  | [] => []
  | x :: r => dcell x ++ flatD r
theorem flatD_app : ∀ (A B : DL), flatD (A ++ B) = flatD A ++ flatD B
  | [], B => rfl
  | c :: r, B => by simp [flatD, flatD_app r B]
theorem flatD_len : ∀ L : DL, (flatD L).length = L.length * 4
  | [] => rfl
  | c :: r => by simp [flatD, dcell, flatD_len r]; omega
def dz : Nd × Value := (nd0, .slice none 0 0)
theorem flatD_get : ∀ (L : DL) (i j : Nat), i < L.length → j < 4 → (flatD L)[i * 4 + j]? = (dcell (L.getD i dz))[j]?
  | [], i, j, h, _ => absurd h (by simp)
  | x :: r, 0, j, _, hj => by
    rw [flatD, Nat.zero_mul, Nat.zero_add, List.getElem?_append_left (by simpa [dcell] using hj)]; rfl
  | x :: r, i + 1, j, h, hj => by
    have ih := flatD_get r i j (by simpa using h) hj
    rw [flatD, List.getElem?_append_right (by simp [dcell]; omega)]
    have e : (i + 1) * 4 + j - (dcell x).length = i * 4 + j := by simp [dcell]; omega
    rw [e, ih]; rfl

/-- A slice of nodes that is being built. -/
structure NR (w : World) (B : Nat) (v : Value) (L : DL) : Prop where
  row : w.ownsRow B 33 4 v L.length (flatD L)
  nn : v ≠ .slice none 0 0
  deps : ∀ x ∈ L, ∃ b, B ≤ b ∧ v.ownBlock ≠ some b ∧ OwnP w b x.2 x.1.deps
theorem nr_new (w : World) (B : Nat) (hB : B ≤ w.heap.size) : NR (w.alloc (.cells #[] 33)) B (.slice (some ⟨w.heap.size, 0, none⟩) 0 0) [] :=
  ⟨World.ownsRow_made _ #[] 0 hB (Nat.zero_le _) rfl, by simp, fun _ h => nomatch h⟩
section
variable {w w' : World} {B : Nat} {v : Value} {L : DL}
theorem NR.same (h : NR w B v L) (hk : ∀ b, B ≤ b → b < w.heap.size → w'.heap[b]? = w.heap[b]?) : NR w' B v L := by
  refine ⟨ownr_same h.row fun k hk' => hk k (ownr_typ h.row hk').2 (ownr_typ h.row hk').1.lt, h.nn, fun x hx => ?_⟩
  obtain ⟨b, h1, h2, h3⟩ := h.deps x hx
  exact ⟨b, h1, h2, h3.same (hk b h1 h3.lt)⟩
theorem NR.up (h : NR w B v L) (hb : Below w.heap.size w w') : NR w' B v L := h.same fun b _ hl => hb.block b hl
theorem NR.keep {r : Nat} (h : NR w B v L) (hk : Keep w.heap.size r w w') (hr : r < B) : NR w' B v L := h.same fun b hb hl => hk.block b hl (by omega)
theorem NR.put (h : NR w B v L) {o : Obj} {v' : Value} {x : Nd × Value} (hown : w'.ownsRow B 33 4 v' (L.length + 1) (flatD L ++ dcell x)) (hg : (w.alloc o).grownBy w' (Value.ownBlock v)) (hn : v' ≠ .slice none 0 0)
    (hat : v'.ownBlock = v.ownBlock ∨ v'.ownBlock = some (w.heap.size + 1)) (hx : ∃ b, B ≤ b ∧ v.ownBlock ≠ some b ∧ OwnP w b x.2 x.1.deps) : NR w' B v' (L ++ [x]) := by
  have keep : ∀ b, b < w.heap.size → v.ownBlock ≠ some b → w'.heap[b]? = w.heap[b]? := fun b hl hne =>
    (hg.block b (by simp; omega) (fun e => hne e.symm)).trans (Below.heap_alloc _ _ _ hl)
  refine ⟨by rw [flatD_app, List.length_append]; simpa [flatD] using hown, hn, fun y hy => ?_⟩
  have hh : ∃ b, B ≤ b ∧ v.ownBlock ≠ some b ∧ OwnP w b y.2 y.1.deps := by
    rcases List.mem_append.1 hy with hy | hy
    · exact h.deps y hy
    · rw [List.mem_singleton] at hy; rw [hy]; exact hx
  obtain ⟨b, h1, h2, h3⟩ := hh
  refine ⟨b, h1, ?_, h3.same (keep b h3.lt h2)⟩
  rcases hat with e | e
  · rw [e]; exact h2
  · rw [e]; intro e'; injection e' with e'; have := h3.lt; omega
/-- What an append leaves of other blocks. -/
theorem NR.grown (h : NR w B v L) {o : Obj} (hg : (w.alloc o).grownBy w' (Value.ownBlock v)) (hB : B ≤ w.heap.size) : Below B w w' := by
  have a := (Below.refl B w).alloc hB o
  exact a.trans ⟨hg.os, hg.tape, hg.output, hg.size, fun k hk => hg.block k (by have := a.size; omega) (fun e => absurd (ownr_typ h.row e.symm).2 (by omega))⟩
theorem mapf_getD {L : DL} {i : Nat} (hi : i < L.length) : (L.map Prod.fst).getD i nd0 = (L.getD i dz).1 := by
  rw [List.getD_eq_getElem?_getD, List.getD_eq_getElem?_getD, List.getElem?_map, List.getElem?_eq_getElem hi]; rfl
theorem NR.ndo (h : NR w B v L) (hl : L.length ≤ 2000000) : NdO w B v (L.map Prod.fst) := by
  rcases h.row.2 with ⟨rfl, _⟩ | ⟨g, cap, cur, rfl, hb, hg, hc, hm, hs, ht⟩
  · exact absurd rfl h.nn
  · refine ⟨g, cap, cur, _, by rw [List.length_map], hb, hg, by rw [List.length_map]; exact hc, by rw [List.length_map]; exact hl, fun i hi => ?_⟩
    rw [List.length_map] at hi
    rw [mapf_getD hi]
    have hx : L.getD i dz ∈ L := by rw [List.getD_eq_getElem?_getD, List.getElem?_eq_getElem hi]; exact List.getElem_mem hi
    have hk : ∀ j, j < 4 → cur[i * 4 + j]? = (dcell (L.getD i dz))[j]? := fun j hj => by
      rw [← flatD_get L i j hi hj, ← ht, List.getElem?_take, if_pos (by omega)]; simp
    obtain ⟨b, h1, h2, h3⟩ := h.deps _ hx
    exact ⟨hk 0 (by omega), hk 1 (by omega), hk 2 (by omega), b, _, h1, fun e => h2 (by rw [e]; rfl), hk 3 (by omega), h3⟩
end
theorem OwnP.cons {w : World} {b : Nat} {u : Value} {C : List Pid} (h : OwnP w b u C) {r : Nat} {w' : World} (hk : Keep w.heap.size r w w') (hr : b ≠ r) : OwnP w' b u C := h.same (hk.block b h.lt hr)
theorem put_pos (L : List Pid) (a : Pid) : 0 < (putP L a).length := List.length_pos_of_mem ((mem_putP L a a).2 (.inl rfl))

/-- Where the loop over the nodes is. -/
structure ZS (w wr : World) (r m : Nat) (cb cc : Nat) (C : List Pid) (vo : Value) (L : DL) : Prop where
  rd : Rd wr r m
  kp : Keep w.heap.size r w wr
  ids : OwnP wr cb (.slice (some ⟨cb, 0, none⟩) C.length cc) C
  cb0 : w.heap.size ≤ cb
  ne : vo.ownBlock ≠ some cb
  nr : NR wr w.heap.size vo L
/-- .. and with the node at hand: its box, its list. -/
structure YS (wO wr : World) (r m xb : Nat) (p q s : Int) (du rv : Value) (D : List Pid) : Prop where
  rd : Rd wr r m
  kp : Keep wO.heap.size r wO wr
  row : Row wr wO.heap.size rv D
  box : wr.heap[xb]? = some (.cells #[.int .i64 p, .int .i64 q, .int .i64 s, du] 33 (0, 0))
  xl : wO.heap.size ≤ xb
section
variable {w wO wr w' : World} {r m cb cc xb : Nat} {C D : List Pid} {vo du rv : Value} {L : DL} {p q s : Int}
theorem ZS.keep (h : ZS w wr r m cb cc C vo L) (hr : r < w.heap.size) {m' : Nat} (hrd : Rd w' r m') (hk : Keep wr.heap.size r wr w') : ZS w w' r m' cb cc C vo L :=
  ⟨hrd, h.kp.trans (hk.mono h.kp.size), h.ids.cons hk (by have := h.cb0; omega), h.cb0, h.ne, h.nr.keep hk hr⟩
theorem YS.keep (h : YS wO wr r m xb p q s du rv D) (hr : r < wO.heap.size) {m' : Nat} (hrd : Rd w' r m') (hk : Keep wr.heap.size r wr w') : YS wO w' r m' xb p q s du rv D :=
  ⟨hrd, h.kp.trans (hk.mono h.kp.size), h.row.stays hk hr, (hk.block xb (lt_of_heap h.box) (by have := h.xl; omega)).trans h.box, h.xl⟩
theorem YS.low (h : YS wO wr r m xb p q s du rv D) (hr : r < wO.heap.size) (hb : Below wr.heap.size wr w') : YS wO w' r m xb p q s du rv D :=
  h.keep hr (h.rd.kept (hb.mono (Nat.succ_le_of_lt h.rd.lt))) (Keep.of_below hb)
theorem YS.app (h : YS wO wr r m xb p q s du rv D) (hr : r < wO.heap.size) {x y : Int} {o : Obj} {v' : Value}
    (hown : w'.ownsRow wO.heap.size 31 2 v' (D.length + 1) (flatP D ++ [.int .i64 x, .int .i64 y])) (hg : (wr.alloc o).grownBy w' (Value.ownBlock rv)) (hn : v' ≠ .slice none 0 0) : YS wO w' r m xb p q s du v' (D ++ [(x, y)]) := by
  have hU := h.low hr ((Below.refl wr.heap.size wr).alloc (Nat.le_refl _) o)
  have B4 := grown_below hU.row hg hU.kp.size
  refine ⟨hU.rd.kept (B4.mono (by omega)), hU.kp.trans (Keep.of_below B4), hU.row.put hown hn, ?_, h.xl⟩
  exact (hg.block xb (lt_of_heap hU.box) (fun e => absurd rfl (TyB.ne ⟨_, hU.box⟩ (ownr_typ hU.row.1 e.symm).1 (by decide)))).trans hU.box
theorem YS.store (h : YS wO wr r m xb p q s du rv D) (hr : r < wO.heap.size) : YS wO (wr.setCell ⟨xb, 3, none⟩ rv) r m xb p q s rv rv D := by
  have b := (Below.refl wO.heap.size wr).setCell (p := ⟨xb, 3, none⟩) h.xl rv
  refine ⟨h.rd.kept (b.mono (by omega)), h.kp.trans (Keep.of_below b), ⟨ownr_same h.row.1 fun k hk => ?_, h.row.2⟩, ?_, h.xl⟩
  · exact heap_setCell_other _ _ _ _ fun e => absurd e ((ownr_typ h.row.1 hk).1.ne ⟨_, h.box⟩ (by decide))
  · simpa using heap_setCell_same wr xb 3 _ _ rv h.box
theorem four_b {w : World} {b : Nat} {x y z u : Value} {t : TypeId} (h : w.heap[b]? = some (.cells #[x, y, z, u] t (0, 0))) : w.cell? ⟨b, 0, none⟩ = some x ∧ w.cell? ⟨b, 1, none⟩ = some y ∧ w.cell? ⟨b, 2, none⟩ = some z ∧ w.cell? ⟨b, 3, none⟩ = some u ∧ w.frozen? ⟨b, 3, none⟩ = false := by
  refine ⟨?_, ?_, ?_, ?_, ?_⟩ <;> simp [World.cell?, World.frozen?, h]
theorem four_z {w : World} {b : Nat} {x y z u : Value} {t : TypeId} (h : w.heap[b]? = some (.cells #[x, y, z, u] t (0, 0))) : (w.cell? ⟨b, 0, none⟩ = some x ∧ w.cell? ⟨b, 1, none⟩ = some y ∧ w.cell? ⟨b, 2, none⟩ = some z ∧ w.cell? ⟨b, 3, none⟩ = some u) ∧ w.frozen? ⟨b, 0, none⟩ = false ∧ w.frozen? ⟨b, 1, none⟩ = false ∧ w.frozen? ⟨b, 2, none⟩ = false ∧ w.frozen? ⟨b, 3, none⟩ = false := by
  refine ⟨⟨?_, ?_, ?_, ?_⟩, ?_, ?_, ?_, ?_⟩ <;> simp [World.cell?, World.frozen?, h]
theorem ZS.of (h : ZS w wO r m cb cc C vo L) (hr : r < w.heap.size) {m' : Nat} (g : YS wO wr r m' xb p q s du rv D) : ZS w wr r m' cb cc C vo L := h.keep hr g.rd g.kp
end
theorem kp_cell {wO w' : World} {r b o : Nat} {v : Value} (hk : Keep wO.heap.size r wO w') (hb : b < wO.heap.size) (hne : b ≠ r) (h : wO.cell? ⟨b, o, none⟩ = some v) : w'.cell? ⟨b, o, none⟩ = some v :=
  (World.cell?_of_block (a := ⟨b, o, none⟩) (hk.block b hb hne)).trans h
/-- A list and a box that are being made, in any order. -/
structure PS (wO W : World) (r m : Nat) (on ox : Option Nat) : Prop where
  rd : Rd W r m
  kp : Keep wO.heap.size r wO W
  li : ∀ b, on = some b → wO.heap.size ≤ b ∧ W.heap[b]? = some (.cells #[] 31 (0, 0))
  bx : ∀ b, ox = some b → wO.heap.size ≤ b ∧ W.heap[b]? = some (.cells #[.int .i64 0, .int .i64 0, .int .i64 0, .slice none 0 0] 33 (0, 0))
section
variable {wO W w' : World} {r m : Nat} {on ox : Option Nat}
theorem PS.start (h : Rd wO r m) : PS wO wO.drew r m none none := ⟨Rd.drewS h, (Keep.refl _ _ _).drewS, fun _ h => (nomatch h), fun _ h => nomatch h⟩
theorem PS.keep (h : PS wO W r m on ox) (hr : r < wO.heap.size) {m' : Nat} (hrd : Rd w' r m') (hk : Keep W.heap.size r W w') : PS wO w' r m' on ox :=
  ⟨hrd, h.kp.trans (hk.mono h.kp.size), fun b e => ⟨(h.li b e).1, (hk.block b (lt_of_heap (h.li b e).2) (by have := (h.li b e).1; omega)).trans (h.li b e).2⟩, fun b e => ⟨(h.bx b e).1, (hk.block b (lt_of_heap (h.bx b e).2) (by have := (h.bx b e).1; omega)).trans (h.bx b e).2⟩⟩
theorem PS.list (h : PS wO W r m on ox) (hr : r < wO.heap.size) : PS wO (W.alloc (.cells #[] 31)) r m (some W.heap.size) ox := by
  have g := h.keep hr (h.rd.alloc (.cells #[] 31)) (Keep.of_below ((Below.refl W.heap.size W).alloc (Nat.le_refl _) (.cells #[] 31)))
  exact ⟨g.rd, g.kp, fun b e => by injection e with e; subst e; exact ⟨h.kp.size, heap_alloc_new W _⟩, g.bx⟩
theorem PS.box (h : PS wO W r m on ox) (hr : r < wO.heap.size) : PS wO (W.alloc (.cells #[.int .i64 0, .int .i64 0, .int .i64 0, .slice none 0 0] 33)) r m on (some W.heap.size) := by
  have g := h.keep hr (h.rd.alloc (.cells #[.int .i64 0, .int .i64 0, .int .i64 0, .slice none 0 0] 33)) (Keep.of_below ((Below.refl W.heap.size W).alloc (Nat.le_refl _) (.cells #[.int .i64 0, .int .i64 0, .int .i64 0, .slice none 0 0] 33)))
  exact ⟨g.rd, g.kp, g.li, fun b e => by injection e with e; subst e; exact ⟨h.kp.size, heap_alloc_new W _⟩⟩
theorem PS.made {nb xb : Nat} (h : PS wO W r m (some nb) (some xb)) (hr : r < wO.heap.size) (p q s : Int) :
    YS wO ((((W.setCell ⟨xb, 0, none⟩ (.int .i64 p)).setCell ⟨xb, 1, none⟩ (.int .i64 q)).setCell ⟨xb, 2, none⟩ (.int .i64 s)).setCell ⟨xb, 3, none⟩ (.slice (some ⟨nb, 0, none⟩) 0 0)) r m xb p q s (.slice (some ⟨nb, 0, none⟩) 0 0) (.slice (some ⟨nb, 0, none⟩) 0 0) [] := by
  obtain ⟨l0, l1⟩ := h.li nb rfl
  obtain ⟨x0, x1⟩ := h.bx xb rfl
  have hne : nb ≠ xb := TyB.ne ⟨_, l1⟩ ⟨_, x1⟩ (by decide)
  have b : Below wO.heap.size W ((((W.setCell ⟨xb, 0, none⟩ (.int .i64 p)).setCell ⟨xb, 1, none⟩ (.int .i64 q)).setCell ⟨xb, 2, none⟩ (.int .i64 s)).setCell ⟨xb, 3, none⟩ (.slice (some ⟨nb, 0, none⟩) 0 0)) :=
    (((((Below.refl wO.heap.size W).setCell (p := ⟨xb, 0, none⟩) x0 _).setCell (p := ⟨xb, 1, none⟩) x0 _).setCell (p := ⟨xb, 2, none⟩) x0 _).setCell (p := ⟨xb, 3, none⟩) x0 _)
  refine ⟨h.rd.kept (b.mono (by omega)), h.kp.trans (Keep.of_below b), ⟨⟨rfl, .inr ⟨nb, 0, #[], rfl, l0, ?_, Nat.le_refl _, Nat.zero_le _, rfl, rfl⟩⟩, by simp⟩, ?_, x0⟩
  · rw [heap_setCell_other _ _ _ _ hne, heap_setCell_other _ _ _ _ hne, heap_setCell_other _ _ _ _ hne, heap_setCell_other _ _ _ _ hne]; exact l1
  · have e := heap_setCell_same _ xb 3 _ _ (.slice (some ⟨nb, 0, none⟩) 0 0) (heap_setCell_same _ xb 2 _ _ (.int .i64 s) (heap_setCell_same _ xb 1 _ _ (.int .i64 q) (heap_setCell_same W xb 0 _ _ (.int .i64 p) x1)))
    simpa using e
end
theorem two_src (w : World) (t : TypeId) (x y : Value) (n : Nat) (hn : n = w.heap.size) : ∀ j u, [x, y][j]? = some u → (w.alloc (.cells #[x, y] t)).cell? ((⟨n, 0, none⟩ : Addr).add j) = some u := two_cells w t x y n hn
theorem two_one (x y : Int) : ∀ u ∈ [Value.int .i64 x, Value.int .i64 y], u.oneCell' = true := by
  intro u hu; simp at hu; rcases hu with rfl | rfl <;> rfl
/-- The node at hand, its list made. -/
structure ES (wO wr : World) (r m xb : Nat) (p q s : Int) (du : Value) (D : List Pid) : Prop where
  rd : Rd wr r m
  kp : Keep wO.heap.size r wO wr
  box : wr.heap[xb]? = some (.cells #[.int .i64 p, .int .i64 q, .int .i64 s, du] 33 (0, 0))
  li : ∃ b, wO.heap.size ≤ b ∧ OwnP wr b du D
section
variable {w wO wr w' : World} {r m cb cc xb : Nat} {C D : List Pid} {vo du : Value} {L : DL} {p q s : Int}
theorem YS.es (h : YS wO wr r m xb p q s du du D) (hl : D.length ≤ 2000000) : ES wO wr r m xb p q s du D := ⟨h.rd, h.kp, h.box, h.row.own hl⟩
theorem YS.redo (h : YS wO wr r m xb p q s du du D) (hr : r < wO.heap.size) {b : Nat} {u : Value} {D' : List Pid} (hb : wr.heap.size ≤ b) (B : Below wr.heap.size wr w') (hO : OwnP w' b u D') : ES wO (w'.setCell ⟨xb, 3, none⟩ u) r m xb p q s u D' := by
  have h' := h.low hr B
  have hx := lt_of_heap h.box
  have bb := (Below.refl wO.heap.size w').setCell (p := ⟨xb, 3, none⟩) h.xl u
  have hs := h.kp.size
  refine ⟨h'.rd.kept (bb.mono (by omega)), h'.kp.trans (Keep.of_below bb), ?_, b, by omega, hO.same (heap_setCell_other _ _ _ _ (by show b ≠ xb; omega))⟩
  simpa using heap_setCell_same w' xb 3 _ _ u h'.box
theorem ES.zs {m' : Nat} (h : ES wO wr r m xb p q s du D) (hZ : ZS w wO r m' cb cc C vo L) (hr : r < w.heap.size) : ZS w wr r m cb cc C vo L := hZ.keep hr h.rd h.kp
theorem ES.put {m' : Nat} (h : ES wO wr r m xb p q s du D) (hZ : ZS w wO r m' cb cc C vo L) (hr : r < w.heap.size) {o : Obj} {v' : Value}
    (hown : w'.ownsRow w.heap.size 33 4 v' (L.length + 1) (flatD L ++ [.int .i64 p, .int .i64 q, .int .i64 s, du])) (hg : (wr.alloc o).grownBy w' (Value.ownBlock vo)) (hn : v' ≠ .slice none 0 0)
    (hat : v'.ownBlock = vo.ownBlock ∨ v'.ownBlock = some (wr.heap.size + 1)) : ZS w w' r m cb cc C v' (L ++ [(⟨(p, q), s, D⟩, du)]) := by
  have Z := h.zs hZ hr
  have B4 := Z.nr.grown hg Z.kp.size
  obtain ⟨b, hb, hO⟩ := h.li
  have hcl := Z.ids.lt
  refine ⟨Z.rd.kept (B4.mono (by omega)), Z.kp.trans (Keep.of_below B4), Z.ids.same ((hg.block cb (by simp; omega) (fun e => Z.ne e.symm)).trans (Below.heap_alloc _ _ _ hcl)), Z.cb0, ?_, Z.nr.put (x := (⟨(p, q), s, D⟩, du)) hown hg hn hat ⟨b, Nat.le_trans hZ.kp.size hb, fun e => ?_, hO⟩⟩
  · rcases hat with e | e
    · rw [e]; exact Z.ne
    · rw [e]; intro e'; injection e' with e'; omega
  · have := (ownr_typ hZ.nr.row e).1.lt; omega
end
/-- A node's list is put in another's place. -/
theorem NdO.setd {w : World} {B : Nat} {v : Value} {N : List Nd} (h : NdO w B v N) {k : Nat} (hk : k < N.length) {b : Nat} {u : Value} {D : List Pid} (hB : B ≤ b) (hne : v.ownBlock ≠ some b) (hO : OwnP w b u D) {g n cap : Nat} (hv : v = .slice (some ⟨g, 0, none⟩) n cap) :
    NdO (w.setCell ⟨g, k * 4 + 3, none⟩ u) B v (N.set k ⟨(N.getD k nd0).id, (N.getD k nd0).seq, D⟩) := by
  obtain ⟨g', cap', cur, t, e, h0, hg, h1, h2, h3⟩ := h
  rw [hv] at e; injection e with e1 e2 e3; injection e1 with e1; injection e1 with e1
  subst e1; subst e2; subst e3; subst hv
  have hbg : b ≠ g := fun e => hne (by rw [e]; rfl)
  have hsz : k * 4 + 3 < cur.size := by
    obtain ⟨_, _, _, _, _, _, _, c3, _⟩ := h3 k hk
    rcases Nat.lt_or_ge (k * 4 + 3) cur.size with hh | hh
    · exact hh
    · rw [Array.getElem?_eq_none hh] at c3; exact absurd c3 (by simp)
  have oth : ∀ c, c ≠ g → (w.setCell ⟨g, k * 4 + 3, none⟩ u).heap[c]? = w.heap[c]? := fun c hc => heap_setCell_other _ _ _ _ hc
  refine ⟨g, cap, _, t, by rw [List.length_set], h0, heap_setCell_same w g (k * 4 + 3) cur t u hg, by rw [List.length_set]; exact h1, by rw [List.length_set]; exact h2, fun i hi => ?_⟩
  rw [List.length_set] at hi
  by_cases e : i = k
  · subst e
    obtain ⟨c0, c1, c2, _⟩ := h3 i hi
    have hs : (N.set i ⟨(N.getD i nd0).id, (N.getD i nd0).seq, D⟩).getD i nd0 = ⟨(N.getD i nd0).id, (N.getD i nd0).seq, D⟩ := by
      rw [List.getD_eq_getElem?_getD, List.getElem?_set_self hi]; rfl
    rw [hs]
    refine ⟨?_, ?_, ?_, b, u, hB, hbg, ?_, hO.same (oth b hbg)⟩
    · rw [Array.getElem?_setIfInBounds, if_neg (by omega)]; exact c0
    · rw [Array.getElem?_setIfInBounds, if_neg (by omega)]; exact c1
    · rw [Array.getElem?_setIfInBounds, if_neg (by omega)]; exact c2
    · rw [Array.getElem?_setIfInBounds, if_pos rfl, if_pos hsz]
  · obtain ⟨c0, c1, c2, b', u', q1, q2, c3, ho⟩ := h3 i hi
    have hs : (N.set k ⟨(N.getD k nd0).id, (N.getD k nd0).seq, D⟩).getD i nd0 = N.getD i nd0 := by
      rw [List.getD_eq_getElem?_getD, List.getElem?_set_ne (fun x => e x.symm), ← List.getD_eq_getElem?_getD]
    rw [hs]
    refine ⟨?_, ?_, ?_, b', u', q1, q2, ?_, ho.same (oth b' q2)⟩ <;> (rw [Array.getElem?_setIfInBounds, if_neg (by omega)]; assumption)
theorem NdO.keep {w w' : World} {B r : Nat} {v : Value} {N : List Nd} (h : NdO w B v N) (hk : Keep w.heap.size r w w') (hr : r < B) : NdO w' B v N := by
  obtain ⟨g, cap, cur, t, rfl, h0, hg, h1, h2, h3⟩ := h
  refine ⟨g, cap, cur, t, rfl, h0, (hk.block g (lt_of_heap hg) (by omega)).trans hg, h1, h2, fun i hi => ?_⟩
  obtain ⟨c0, c1, c2, b, u, q1, q2, c3, ho⟩ := h3 i hi
  exact ⟨c0, c1, c2, b, u, q1, q2, c3, ho.cons hk (by omega)⟩
theorem NdO.at_ {w : World} {B : Nat} {v : Value} {N : List Nd} (h : NdO w B v N) : ∃ g cap, v = .slice (some ⟨g, 0, none⟩) N.length cap ∧ B ≤ g ∧ g < w.heap.size ∧ N.length ≤ cap ∧ (∀ o, w.frozen? ⟨g, o, none⟩ = false) ∧ ∀ i, i < N.length → w.cell? ⟨g, i * 4, none⟩ = some (.int .i64 (N.getD i nd0).id.1) ∧ w.cell? ⟨g, i * 4 + 1, none⟩ = some (.int .i64 (N.getD i nd0).id.2) ∧ w.cell? ⟨g, i * 4 + 2, none⟩ = some (.int .i64 (N.getD i nd0).seq) ∧ ∃ u, w.cell? ⟨g, i * 4 + 3, none⟩ = some u := by
  obtain ⟨g, cap, cur, t, rfl, h0, hg, h1, h2, h3⟩ := h
  refine ⟨g, cap, rfl, h0, lt_of_heap hg, h1, fun o => by simp [World.frozen?, hg], fun i hi => ?_⟩
  obtain ⟨c0, c1, c2, b, u, q1, q2, c3, ho⟩ := h3 i hi
  rw [cell_of_cells hg, cell_of_cells hg, cell_of_cells hg, cell_of_cells hg]
  exact ⟨c0, c1, c2, u, c3⟩
theorem four_srcD (w : World) (t : TypeId) (x y z u : Value) (n : Nat) (hn : n = w.heap.size) : ∀ j v, [x, y, z, u][j]? = some v → (w.alloc (.cells #[x, y, z, u] t)).cell? ((⟨n, 0, none⟩ : Addr).add j) = some v := by
  subst hn
  intro j v hj
  match j, hj with
  | 0, hj => simp at hj; subst hj; simp [Addr.add]
  | 1, hj => simp at hj; subst hj; simp [Addr.add]
  | 2, hj => simp at hj; subst hj; simp [Addr.add]
  | 3, hj => simp at hj; subst hj; simp [Addr.add]
  | j + 4, hj => simp at hj
theorem four_oneD (x y z : Int) (a : Option Addr) (n c : Nat) : ∀ u ∈ [Value.int .i64 x, .int .i64 y, .int .i64 z, .slice a n c], u.oneCell' = true := by
  intro u hu; simp at hu; rcases hu with rfl | rfl | rfl | rfl <;> rfl
end Go.Proofs.Ytbklkhndjckckaa

/- Draws of nodes: l91Nodes, DrawNodesOrder. -/
namespace Go.Proofs.Ytbklkhndjckckaa
open Go.RowKit
set_option linter.unusedVariables false

/-- What l91Nodes leaves. -/
def NdsPost (r n : Nat) (w : World) (e : Ending) (w' : World) : Prop :=
  ∃ v N, e = .returned v ∧ NdO w' w.heap.size v N ∧ 0 < N.length ∧ N.length ≤ 8 ∧ Rd w' r (n + 200) ∧ Keep w.heap.size r w w'

set_option maxRecDepth 100000 in
set_option maxHeartbeats 8000000 in
theorem nodes_any (r n : Nat) (w : World) (hrd : Rd w r n) (hn : n ≤ 800000000) :
    Calls Try.prog 30 #[.pointer (some ⟨r, 0, none⟩)] w (NdsPost r n w) := by
  have hrl := hrd.lt
  obtain ⟨i0, hi, hz0, hz1, hz2⟩ := info_parts infoP
  obtain ⟨j0, hj0, jz0, jz1, jz2⟩ := info_parts info_nd
  have hO0 : OwnP (w.alloc (.cells #[] 31)) w.heap.size (.slice (some ⟨w.heap.size, 0, none⟩) 0 0) [] := ⟨0, _, _, rfl, heap_alloc_new w _, Nat.le_refl _, Nat.zero_le _, fun i hi => absurd hi (Nat.not_lt_zero _)⟩
  have hO0 := Lib.hid hO0
  have hrd := Lib.hid hrd
  go_enter Try.func30, Try.ntmps30
  go_wp2_with fail
  refine (pick_any 7 r n _ (hrd.out.alloc _) (by omega)).mono ?_
  rintro e w1 ⟨m, rfl, m0, m1', hr1, hk1⟩
  have m1 := m1' (by omega)
  have s1 : w.heap.size + 1 ≤ w1.heap.size := by simpa using hk1.size
  have K1 := Lib.hid (((Keep.refl w.heap.size r w).alloc (Nat.le_refl _) (.cells #[] 31)).trans (hk1.mono (by simp)))
  have hO1 := Lib.hid (hO0.out.cons hk1 (by omega))
  have hr1 := Lib.hid hr1
  obtain ⟨m, rfl⟩ := Int.eq_ofNat_of_zero_le m0
  have hm6 : m ≤ 6 := by omega
  clear hk1 hO0 m1' hrd m0 m1
  go_wp2_with fail
  go_loopw [3, 5] (fun v i wr => ∃ (k : Nat) (cb : Nat) (C : List Pid), k ≤ m + 1 ∧ i = .int .i64 k ∧ C.length ≤ k ∧ (0 < k → 0 < C.length) ∧ w.heap.size ≤ cb ∧ Hid (OwnP wr cb v C) ∧ Hid (Rd wr r (n + 1 + 2 * k)) ∧ Hid (Keep w.heap.size r w wr)) (fun _ i _ => m + 1 - (intOf i).toNat)
  case atStart => exact ⟨0, w.heap.size, [], by omega, rfl, Nat.zero_le _, fun h => absurd h (Nat.lt_irrefl _), Nat.le_refl _, hO1, hr1, K1⟩
  case round =>
    clear hO1 hr1 K1
    obtain ⟨k, cb, C, hk, rfl, hC, hC0, hcb, hO, hr, hK⟩ := hrel
    obtain ⟨cc, rfl, hcc⟩ := hO.out.shape
    have hKs := hK.out.size
    by_cases hlt : k < m + 1
    · go_wp2_with fail
      refine (pick_any 3 r _ _ hr.out (by omega)).mono ?_
      rintro e w2 ⟨x, rfl, x0, x1', hr2, hk2⟩
      have hO2 := Lib.hid (hO.out.cons hk2 (by omega))
      have K2 := Lib.hid (hK.out.trans (hk2.mono hKs))
      have hr2 := Lib.hid hr2
      have hs2 := hk2.size
      clear hk2 hO hK hr x1'
      go_wp2_with fail
      refine (pick_any 3 r _ _ hr2.out (by omega)).mono ?_
      rintro e w3 ⟨y, rfl, y0, y1', hr3, hk3⟩
      have y1 := y1' (by omega)
      have hO3 := Lib.hid (hO2.out.cons hk3 (by omega))
      have K3 := Lib.hid (K2.out.trans (hk3.mono (by omega)))
      have hr3 := Lib.hid hr3
      have hs3 := hk3.size
      clear hk3 hO2 K2 hr2 y1'
      have sp := fun x y => sput_at cb 0 cc C x y w3 hO3.out.lt (by omega) (fun i hi => by rw [Nat.zero_add]; exact hO3.out.cell i hi)
      go_wp2_with fail
      refine (sp _ _).mono ?_
      rintro e w4 ⟨b', u, hb', rfl, hO4, B⟩
      have hp := put_pos C (x, 1 + y)
      have hl := (len_putP C (x, 1 + y)).2
      have hr4 := Lib.hid (hr3.out.kept (B.mono (Nat.succ_le_of_lt hr3.out.lt)))
      have K4 := Lib.hid (K3.out.trans (Keep.of_below (B.mono (by omega))))
      generalize putP C (x, 1 + y) = C4 at hO4 hp hl
      have hO4 := Lib.hid hO4
      clear hO3 K3 hr3 B sp
      go_wp2_with fail
      refine ⟨⟨k + 1, b', C4, by omega, by go_num, by omega, fun _ => hp, by omega, hO4, Lib.hid (hr4.out.more (by omega)), K4⟩, ?_⟩
      simp [intOf]; omega
    · have hge : ¬ ((k : Int) < 1 + m) := by omega
      have hCp := hC0 (by omega)
      have Z0 : Hid (ZS w (wr.alloc (.cells #[] 33)) r (n + 20) cb cc C (.slice (some ⟨wr.heap.size, 0, none⟩) 0 0) []) := by
        have b := (Below.refl wr.heap.size wr).alloc (Nat.le_refl _) (.cells #[] 33)
        exact Lib.hid ⟨(hr.out.alloc _).more (by omega), hK.out.trans (Keep.of_below (b.mono hKs)), hO.out.up b hO.out.lt, hcb, fun e => (by simp [Value.ownBlock] at e; have := hO.out.lt; omega), nr_new wr _ hKs⟩
      obtain ⟨nc, hnc⟩ : ∃ x, Hid (C.length = x) := ⟨_, Lib.hid rfl⟩
      rw [hnc.out] at hC hCp ⊢
      have hnc7 : nc ≤ 7 := by omega
      clear hO hr hK hC0 hcc
      go_wp2_with fail
      go_loopw [6, 7] (fun vo i wr => ∃ (L : DL), L.length ≤ nc ∧ i = .int .i64 L.length ∧ Hid (ZS w wr r (n + 20 + L.length * 12) cb cc C vo L)) (fun _ i _ => nc - (intOf i).toNat)
      case atStart => exact ⟨[], Nat.zero_le _, rfl, Z0⟩
      case round =>
        clear Z0
        obtain ⟨L, hL, rfl, hZ⟩ := hrel
        have hZl := hZ.out.kp.size
        obtain ⟨j, hj⟩ : ∃ x, Hid (L.length = x) := ⟨_, Lib.hid rfl⟩
        rw [hj.out] at hL hZ ⊢
        by_cases hlt : j < nc
        · have hjC : j < C.length := by rw [hnc.out]; exact hlt
          obtain ⟨c0, c1⟩ := hZ.out.ids.cell j hjC
          obtain ⟨d, hd⟩ : ∃ d, Hid (C.getD j nop = d) := ⟨_, Lib.hid rfl⟩
          rw [hd.out] at c0 c1
          obtain ⟨p, q⟩ := d
          dsimp only at c0 c1
          have hcl := hZ.out.ids.lt
          go_wp2_with fail
          have hrl2 : r < wr.heap.size := by omega
          have hcr : cb ≠ r := by have := hZ.out.cb0; omega
          go_upto_region 11 with fail
          go_cut [8] from 35 to 43 (fun s8 wx => ∃ (xb nb : Nat) (sq : Int), s8 = .pointer (some ⟨xb, 0, none⟩) ∧ Hid (YS wr wx r (n + 20 + j * 12 + 1) xb p q sq (.slice (some ⟨nb, 0, none⟩) 0 0) (.slice (some ⟨nb, 0, none⟩) 0 0) []))
          case first =>
            -- R11A
            have P0 := Lib.hid (PS.start hZ.out.rd)
            refine wp_region_held_drew (S := fun w' => w'.cell? ⟨cb, j * 2, none⟩ = some (.int .i64 p) ∧ w'.cell? ⟨cb, j * 2 + 1, none⟩ = some (.int .i64 q)) (by kernel_rfl) ⟨c0, c1⟩ (fun hHeld => ?_)
            generalize wr.drew = V0 at P0 hHeld ⊢
            refine wpAnyH_take (i := 0) (oi := ⟨some 35, _, _, _, _, _⟩) (v := ?_) rfl (by kernel_rfl) (by kernel_rfl) (by kernel_rfl) (fun _ _ _ h => h) (Or.inl ⟨by rfl, ?_⟩) (by assumption) ?_
            rotate_left 1
            · intro w hSw; (try dsimp only at hSw); go_simp; try (with_reducible rfl)
            try simp only [Act.put, List.setIfInBounds_toArray, List.set_cons_zero, List.set_cons_succ]
            refine wpAnyH_take (i := 1) (oi := ⟨some 36, _, _, _, _, _⟩) (v := ?_) rfl (by kernel_rfl) (by kernel_rfl) (by kernel_rfl) (fun _ _ _ h => h) (Or.inl ⟨by rfl, ?_⟩) (by assumption) ?_
            rotate_left 1
            · intro w hSw; (try dsimp only at hSw); go_simp; try (with_reducible rfl)
            try simp only [Act.put, List.setIfInBounds_toArray, List.set_cons_zero, List.set_cons_succ]
            refine wpAnyH_take (i := 2) (oi := ⟨some 37, _, _, _, _, _⟩) (v := ?_) rfl (by kernel_rfl) (by kernel_rfl) (by kernel_rfl) (fun _ _ _ h => h) (Or.inl ⟨by rfl, ?_⟩) (by assumption) ?_
            rotate_left 1
            · intro w hSw; (try dsimp only at hSw); go_simp; try (with_reducible rfl)
            try simp only [Act.put, List.setIfInBounds_toArray, List.set_cons_zero, List.set_cons_succ]
            refine wpAnyH_take (i := 3) (oi := ⟨some 38, _, _, _, _, _⟩) (v := ?_) rfl (by kernel_rfl) (by kernel_rfl) (by kernel_rfl) (fun _ _ _ h => h) (Or.inl ⟨by rfl, ?_⟩) (by assumption) ?_
            rotate_left 1
            · intro w hSw; (try dsimp only at hSw); go_simp; try (with_reducible rfl)
            try simp only [Act.put, List.setIfInBounds_toArray, List.set_cons_zero, List.set_cons_succ]
            refine wpAnyH_take (i := 4) (oi := ⟨some 39, _, _, _, _, _⟩) (v := ?_) rfl (by kernel_rfl) (by kernel_rfl) (by kernel_rfl) (fun _ _ _ h => h) (Or.inl ⟨by rfl, ?_⟩) (by assumption) ?_
            rotate_left 1
            · intro w hSw; (try dsimp only at hSw); go_simp; try (with_reducible rfl)
            try simp only [Act.put, List.setIfInBounds_toArray, List.set_cons_zero, List.set_cons_succ]
            refine wpAnyH_ready (rs := [5, 7, 9]) (by kernel_rfl) (by simp) ?_
            refine AllReadyH.cons (o := ⟨some 40, _, _, _, _, _⟩) rfl (fun K hK => ?_) ?_
            · go_simp
              refine (pick_any 5 r _ _ P0.out.rd (by omega)).mono ?_
              rintro e w2 ⟨s, rfl, s0, s1', hr', hk'⟩
              have s1 := s1' (by omega)
              have P1 := Lib.hid (P0.out.keep hrl2 hr' hk')
              clear s1' hr' hk'
              go_wp2_with fail
              refine hK.out _ _ ?_ (fun hHeld2 => ?_)
              · exact ⟨kp_cell P1.out.kp hcl hcr c0, kp_cell P1.out.kp hcl hcr c1⟩
              clear hK K hHeld P0
              have hHeld := hHeld2
              clear hHeld2
              try simp only [Act.put, List.setIfInBounds_toArray, List.set_cons_zero, List.set_cons_succ]
              refine wpAnyH_take (i := 6) (oi := ⟨some 41, _, _, _, _, _⟩) (v := ?_) rfl (by kernel_rfl) (by kernel_rfl) (by kernel_rfl) (fun _ _ _ h => h) (Or.inl ⟨by rfl, ?_⟩) (by assumption) ?_
              rotate_left 1
              · intro w hSw; (try dsimp only at hSw); go_simp; try (with_reducible rfl)
              try simp only [Act.put, List.setIfInBounds_toArray, List.set_cons_zero, List.set_cons_succ]
              refine wpAnyH_ready (rs := [7, 9]) (by kernel_rfl) (by simp) ?_
              refine AllReadyH.cons (o := ⟨some 42, _, _, _, _, _⟩) rfl (fun K hK => ?_) ?_
              · have P2 := Lib.hid (P1.out.list hrl2)
                go_simp
                generalize (w2.alloc (.cells #[] 31)) = V2 at P2 ⊢
                refine hK.out _ _ ?_ (fun hHeld2 => ?_)
                · exact ⟨kp_cell P2.out.kp hcl hcr c0, kp_cell P2.out.kp hcl hcr c1⟩
                clear hK K hHeld P1
                have hHeld := hHeld2
                clear hHeld2
                try simp only [Act.put, List.setIfInBounds_toArray, List.set_cons_zero, List.set_cons_succ]
                refine wpAnyH_take (i := 8) (oi := ⟨some 43, _, _, _, _, _⟩) (v := ?_) rfl (by kernel_rfl) (by kernel_rfl) (by kernel_rfl) (fun _ _ _ h => h) (Or.inl ⟨by rfl, ?_⟩) (by assumption) ?_
                rotate_left 1
                · intro w hSw; (try dsimp only at hSw); go_simp; try (with_reducible rfl)
                try simp only [Act.put, List.setIfInBounds_toArray, List.set_cons_zero, List.set_cons_succ]
                refine wpAnyH_ready (rs := [9]) (by kernel_rfl) (by simp) ?_
                refine AllReadyH.cons (o := ⟨some 8, _, _, _, _, _⟩) rfl (fun K hK => ?_) AllReadyH.nil
                have P3 := Lib.hid (P2.out.box hrl2)
                go_simp
                generalize (V2.alloc (.cells #[.int .i64 0, .int .i64 0, .int .i64 0, .slice none 0 0] 33)) = V3 at P3 ⊢
                refine hK.out _ _ ?_ (fun hHeld2 => ?_)
                · exact ⟨kp_cell P3.out.kp hcl hcr c0, kp_cell P3.out.kp hcl hcr c1⟩
                clear hK K hHeld P2
                have hHeld := hHeld2
                clear hHeld2
                try simp only [Act.put, List.setIfInBounds_toArray, List.set_cons_zero, List.set_cons_succ]
                have hY := P3.out.made hrl2 p q (IntKind.i64.wrap (1 + s))
                obtain ⟨x0, x1⟩ := P3.out.bx _ rfl
                obtain ⟨⟨b0, b1, b2, b3⟩, f0, f1, f2, f3⟩ := four_z x1
                have hxl := lt_of_heap x1
                refine wpAnyH_ready (rs := [10]) (by kernel_rfl) (by simp) ?_
                refine AllReadyH.cons (o := ⟨none, _, _, _, _, _⟩) rfl (fun K hK => ?_) AllReadyH.nil
                go_simp
                refine hK.out _ _ ?_ (fun hHeld2 => ?_)
                · exact ⟨kp_cell hY.kp hcl hcr c0, kp_cell hY.kp hcl hcr c1⟩
                clear hK K hHeld P3 b0 b1 b2 b3 f0 f1 f2 f3 x0 x1 hHeld2
                have hY := Lib.hid hY
                try simp only [Act.put, List.setIfInBounds_toArray, List.set_cons_zero, List.set_cons_succ]
                refine wpAnyH_done (by kernel_rfl) ?_ _
                try simp only [Act.put, List.setIfInBounds_toArray, List.set_cons_zero, List.set_cons_succ]
                go_wp2_with fail
                go_meet
                exact ⟨_, _, _, rfl, hY⟩
              refine AllReadyH.cons (o := ⟨some 8, _, _, _, _, _⟩) rfl (fun K hK => ?_) AllReadyH.nil
              have P2 := Lib.hid (P1.out.box hrl2)
              go_simp
              generalize (w2.alloc (.cells #[.int .i64 0, .int .i64 0, .int .i64 0, .slice none 0 0] 33)) = V2 at P2 ⊢
              refine hK.out _ _ ?_ (fun hHeld2 => ?_)
              · exact ⟨kp_cell P2.out.kp hcl hcr c0, kp_cell P2.out.kp hcl hcr c1⟩
              clear hK K hHeld P1
              have hHeld := hHeld2
              clear hHeld2
              try simp only [Act.put, List.setIfInBounds_toArray, List.set_cons_zero, List.set_cons_succ]
              refine wpAnyH_ready (rs := [7]) (by kernel_rfl) (by simp) ?_
              refine AllReadyH.cons (o := ⟨some 42, _, _, _, _, _⟩) rfl (fun K hK => ?_) AllReadyH.nil
              have P3 := Lib.hid (P2.out.list hrl2)
              go_simp
              generalize (V2.alloc (.cells #[] 31)) = V3 at P3 ⊢
              refine hK.out _ _ ?_ (fun hHeld2 => ?_)
              · exact ⟨kp_cell P3.out.kp hcl hcr c0, kp_cell P3.out.kp hcl hcr c1⟩
              clear hK K hHeld P2
              have hHeld := hHeld2
              clear hHeld2
              try simp only [Act.put, List.setIfInBounds_toArray, List.set_cons_zero, List.set_cons_succ]
              refine wpAnyH_take (i := 8) (oi := ⟨some 43, _, _, _, _, _⟩) (v := ?_) rfl (by kernel_rfl) (by kernel_rfl) (by kernel_rfl) (fun _ _ _ h => h) (Or.inl ⟨by rfl, ?_⟩) (by assumption) ?_
              rotate_left 1
              · intro w hSw; (try dsimp only at hSw); go_simp; try (with_reducible rfl)
              try simp only [Act.put, List.setIfInBounds_toArray, List.set_cons_zero, List.set_cons_succ]
              have hY := P3.out.made hrl2 p q (IntKind.i64.wrap (1 + s))
              obtain ⟨x0, x1⟩ := P3.out.bx _ rfl
              obtain ⟨⟨b0, b1, b2, b3⟩, f0, f1, f2, f3⟩ := four_z x1
              have hxl := lt_of_heap x1
              refine wpAnyH_ready (rs := [10]) (by kernel_rfl) (by simp) ?_
              refine AllReadyH.cons (o := ⟨none, _, _, _, _, _⟩) rfl (fun K hK => ?_) AllReadyH.nil
              go_simp
              refine hK.out _ _ ?_ (fun hHeld2 => ?_)
              · exact ⟨kp_cell hY.kp hcl hcr c0, kp_cell hY.kp hcl hcr c1⟩
              clear hK K hHeld P3 b0 b1 b2 b3 f0 f1 f2 f3 x0 x1 hHeld2
              have hY := Lib.hid hY
              try simp only [Act.put, List.setIfInBounds_toArray, List.set_cons_zero, List.set_cons_succ]
              refine wpAnyH_done (by kernel_rfl) ?_ _
              try simp only [Act.put, List.setIfInBounds_toArray, List.set_cons_zero, List.set_cons_succ]
              go_wp2_with fail
              go_meet
              exact ⟨_, _, _, rfl, hY⟩
            refine AllReadyH.cons (o := ⟨some 42, _, _, _, _, _⟩) rfl (fun K hK => ?_) ?_
            · have P1 := Lib.hid (P0.out.list hrl2)
              go_simp
              generalize (V0.alloc (.cells #[] 31)) = V1 at P1 ⊢
              refine hK.out _ _ ?_ (fun hHeld2 => ?_)
              · exact ⟨kp_cell P1.out.kp hcl hcr c0, kp_cell P1.out.kp hcl hcr c1⟩
              clear hK K hHeld P0
              have hHeld := hHeld2
              clear hHeld2
              try simp only [Act.put, List.setIfInBounds_toArray, List.set_cons_zero, List.set_cons_succ]
              refine wpAnyH_ready (rs := [5, 9]) (by kernel_rfl) (by simp) ?_
              refine AllReadyH.cons (o := ⟨some 40, _, _, _, _, _⟩) rfl (fun K hK => ?_) ?_
              · go_simp
                refine (pick_any 5 r _ _ P1.out.rd (by omega)).mono ?_
                rintro e w3 ⟨s, rfl, s0, s1', hr', hk'⟩
                have s1 := s1' (by omega)
                have P2 := Lib.hid (P1.out.keep hrl2 hr' hk')
                clear s1' hr' hk'
                go_wp2_with fail
                refine hK.out _ _ ?_ (fun hHeld2 => ?_)
                · exact ⟨kp_cell P2.out.kp hcl hcr c0, kp_cell P2.out.kp hcl hcr c1⟩
                clear hK K hHeld P1
                have hHeld := hHeld2
                clear hHeld2
                try simp only [Act.put, List.setIfInBounds_toArray, List.set_cons_zero, List.set_cons_succ]
                refine wpAnyH_take (i := 6) (oi := ⟨some 41, _, _, _, _, _⟩) (v := ?_) rfl (by kernel_rfl) (by kernel_rfl) (by kernel_rfl) (fun _ _ _ h => h) (Or.inl ⟨by rfl, ?_⟩) (by assumption) ?_
                rotate_left 1
                · intro w hSw; (try dsimp only at hSw); go_simp; try (with_reducible rfl)
                try simp only [Act.put, List.setIfInBounds_toArray, List.set_cons_zero, List.set_cons_succ]
                refine wpAnyH_take (i := 8) (oi := ⟨some 43, _, _, _, _, _⟩) (v := ?_) rfl (by kernel_rfl) (by kernel_rfl) (by kernel_rfl) (fun _ _ _ h => h) (Or.inl ⟨by rfl, ?_⟩) (by assumption) ?_
                rotate_left 1
                · intro w hSw; (try dsimp only at hSw); go_simp; try (with_reducible rfl)
                try simp only [Act.put, List.setIfInBounds_toArray, List.set_cons_zero, List.set_cons_succ]
                refine wpAnyH_ready (rs := [9]) (by kernel_rfl) (by simp) ?_
                refine AllReadyH.cons (o := ⟨some 8, _, _, _, _, _⟩) rfl (fun K hK => ?_) AllReadyH.nil
                have P3 := Lib.hid (P2.out.box hrl2)
                go_simp
                generalize (w3.alloc (.cells #[.int .i64 0, .int .i64 0, .int .i64 0, .slice none 0 0] 33)) = V3 at P3 ⊢
                refine hK.out _ _ ?_ (fun hHeld2 => ?_)
                · exact ⟨kp_cell P3.out.kp hcl hcr c0, kp_cell P3.out.kp hcl hcr c1⟩
                clear hK K hHeld P2
                have hHeld := hHeld2
                clear hHeld2
                try simp only [Act.put, List.setIfInBounds_toArray, List.set_cons_zero, List.set_cons_succ]
                have hY := P3.out.made hrl2 p q (IntKind.i64.wrap (1 + s))
                obtain ⟨x0, x1⟩ := P3.out.bx _ rfl
                obtain ⟨⟨b0, b1, b2, b3⟩, f0, f1, f2, f3⟩ := four_z x1
                have hxl := lt_of_heap x1
                refine wpAnyH_ready (rs := [10]) (by kernel_rfl) (by simp) ?_
                refine AllReadyH.cons (o := ⟨none, _, _, _, _, _⟩) rfl (fun K hK => ?_) AllReadyH.nil
                go_simp
                refine hK.out _ _ ?_ (fun hHeld2 => ?_)
                · exact ⟨kp_cell hY.kp hcl hcr c0, kp_cell hY.kp hcl hcr c1⟩
                clear hK K hHeld P3 b0 b1 b2 b3 f0 f1 f2 f3 x0 x1 hHeld2
                have hY := Lib.hid hY
                try simp only [Act.put, List.setIfInBounds_toArray, List.set_cons_zero, List.set_cons_succ]
                refine wpAnyH_done (by kernel_rfl) ?_ _
                try simp only [Act.put, List.setIfInBounds_toArray, List.set_cons_zero, List.set_cons_succ]
                go_wp2_with fail
                go_meet
                exact ⟨_, _, _, rfl, hY⟩
              refine AllReadyH.cons (o := ⟨some 8, _, _, _, _, _⟩) rfl (fun K hK => ?_) AllReadyH.nil
              have P2 := Lib.hid (P1.out.box hrl2)
              go_simp
              generalize (V1.alloc (.cells #[.int .i64 0, .int .i64 0, .int .i64 0, .slice none 0 0] 33)) = V2 at P2 ⊢
              refine hK.out _ _ ?_ (fun hHeld2 => ?_)
              · exact ⟨kp_cell P2.out.kp hcl hcr c0, kp_cell P2.out.kp hcl hcr c1⟩
              clear hK K hHeld P1
              have hHeld := hHeld2
              clear hHeld2
              try simp only [Act.put, List.setIfInBounds_toArray, List.set_cons_zero, List.set_cons_succ]
              refine wpAnyH_ready (rs := [5]) (by kernel_rfl) (by simp) ?_
              refine AllReadyH.cons (o := ⟨some 40, _, _, _, _, _⟩) rfl (fun K hK => ?_) AllReadyH.nil
              go_simp
              refine (pick_any 5 r _ _ P2.out.rd (by omega)).mono ?_
              rintro e w4 ⟨s, rfl, s0, s1', hr', hk'⟩
              have s1 := s1' (by omega)
              have P3 := Lib.hid (P2.out.keep hrl2 hr' hk')
              clear s1' hr' hk'
              go_wp2_with fail
              refine hK.out _ _ ?_ (fun hHeld2 => ?_)
              · exact ⟨kp_cell P3.out.kp hcl hcr c0, kp_cell P3.out.kp hcl hcr c1⟩
              clear hK K hHeld P2
              have hHeld := hHeld2
              clear hHeld2
              try simp only [Act.put, List.setIfInBounds_toArray, List.set_cons_zero, List.set_cons_succ]
              refine wpAnyH_take (i := 6) (oi := ⟨some 41, _, _, _, _, _⟩) (v := ?_) rfl (by kernel_rfl) (by kernel_rfl) (by kernel_rfl) (fun _ _ _ h => h) (Or.inl ⟨by rfl, ?_⟩) (by assumption) ?_
              rotate_left 1
              · intro w hSw; (try dsimp only at hSw); go_simp; try (with_reducible rfl)
              try simp only [Act.put, List.setIfInBounds_toArray, List.set_cons_zero, List.set_cons_succ]
              refine wpAnyH_take (i := 8) (oi := ⟨some 43, _, _, _, _, _⟩) (v := ?_) rfl (by kernel_rfl) (by kernel_rfl) (by kernel_rfl) (fun _ _ _ h => h) (Or.inl ⟨by rfl, ?_⟩) (by assumption) ?_
              rotate_left 1
              · intro w hSw; (try dsimp only at hSw); go_simp; try (with_reducible rfl)
              try simp only [Act.put, List.setIfInBounds_toArray, List.set_cons_zero, List.set_cons_succ]
              have hY := P3.out.made hrl2 p q (IntKind.i64.wrap (1 + s))
              obtain ⟨x0, x1⟩ := P3.out.bx _ rfl
              obtain ⟨⟨b0, b1, b2, b3⟩, f0, f1, f2, f3⟩ := four_z x1
              have hxl := lt_of_heap x1
              refine wpAnyH_ready (rs := [10]) (by kernel_rfl) (by simp) ?_
              refine AllReadyH.cons (o := ⟨none, _, _, _, _, _⟩) rfl (fun K hK => ?_) AllReadyH.nil
              go_simp
              refine hK.out _ _ ?_ (fun hHeld2 => ?_)
              · exact ⟨kp_cell hY.kp hcl hcr c0, kp_cell hY.kp hcl hcr c1⟩
              clear hK K hHeld P3 b0 b1 b2 b3 f0 f1 f2 f3 x0 x1 hHeld2
              have hY := Lib.hid hY
              try simp only [Act.put, List.setIfInBounds_toArray, List.set_cons_zero, List.set_cons_succ]
              refine wpAnyH_done (by kernel_rfl) ?_ _
              try simp only [Act.put, List.setIfInBounds_toArray, List.set_cons_zero, List.set_cons_succ]
              go_wp2_with fail
              go_meet
              exact ⟨_, _, _, rfl, hY⟩
            refine AllReadyH.cons (o := ⟨some 8, _, _, _, _, _⟩) rfl (fun K hK => ?_) AllReadyH.nil
            have P1 := Lib.hid (P0.out.box hrl2)
            go_simp
            generalize (V0.alloc (.cells #[.int .i64 0, .int .i64 0, .int .i64 0, .slice none 0 0] 33)) = V1 at P1 ⊢
            refine hK.out _ _ ?_ (fun hHeld2 => ?_)
            · exact ⟨kp_cell P1.out.kp hcl hcr c0, kp_cell P1.out.kp hcl hcr c1⟩
            clear hK K hHeld P0
            have hHeld := hHeld2
            clear hHeld2
            try simp only [Act.put, List.setIfInBounds_toArray, List.set_cons_zero, List.set_cons_succ]
            refine wpAnyH_ready (rs := [5, 7]) (by kernel_rfl) (by simp) ?_
            refine AllReadyH.cons (o := ⟨some 40, _, _, _, _, _⟩) rfl (fun K hK => ?_) ?_
            · go_simp
              refine (pick_any 5 r _ _ P1.out.rd (by omega)).mono ?_
              rintro e w3 ⟨s, rfl, s0, s1', hr', hk'⟩
              have s1 := s1' (by omega)
              have P2 := Lib.hid (P1.out.keep hrl2 hr' hk')
              clear s1' hr' hk'
              go_wp2_with fail
              refine hK.out _ _ ?_ (fun hHeld2 => ?_)
              · exact ⟨kp_cell P2.out.kp hcl hcr c0, kp_cell P2.out.kp hcl hcr c1⟩
              clear hK K hHeld P1
              have hHeld := hHeld2
              clear hHeld2
              try simp only [Act.put, List.setIfInBounds_toArray, List.set_cons_zero, List.set_cons_succ]
              refine wpAnyH_take (i := 6) (oi := ⟨some 41, _, _, _, _, _⟩) (v := ?_) rfl (by kernel_rfl) (by kernel_rfl) (by kernel_rfl) (fun _ _ _ h => h) (Or.inl ⟨by rfl, ?_⟩) (by assumption) ?_
              rotate_left 1
              · intro w hSw; (try dsimp only at hSw); go_simp; try (with_reducible rfl)
              try simp only [Act.put, List.setIfInBounds_toArray, List.set_cons_zero, List.set_cons_succ]
              refine wpAnyH_ready (rs := [7]) (by kernel_rfl) (by simp) ?_
              refine AllReadyH.cons (o := ⟨some 42, _, _, _, _, _⟩) rfl (fun K hK => ?_) AllReadyH.nil
              have P3 := Lib.hid (P2.out.list hrl2)
              go_simp
              generalize (w3.alloc (.cells #[] 31)) = V3 at P3 ⊢
              refine hK.out _ _ ?_ (fun hHeld2 => ?_)
              · exact ⟨kp_cell P3.out.kp hcl hcr c0, kp_cell P3.out.kp hcl hcr c1⟩
              clear hK K hHeld P2
              have hHeld := hHeld2
              clear hHeld2
              try simp only [Act.put, List.setIfInBounds_toArray, List.set_cons_zero, List.set_cons_succ]
              refine wpAnyH_take (i := 8) (oi := ⟨some 43, _, _, _, _, _⟩) (v := ?_) rfl (by kernel_rfl) (by kernel_rfl) (by kernel_rfl) (fun _ _ _ h => h) (Or.inl ⟨by rfl, ?_⟩) (by assumption) ?_
              rotate_left 1
              · intro w hSw; (try dsimp only at hSw); go_simp; try (with_reducible rfl)
              try simp only [Act.put, List.setIfInBounds_toArray, List.set_cons_zero, List.set_cons_succ]
              have hY := P3.out.made hrl2 p q (IntKind.i64.wrap (1 + s))
              obtain ⟨x0, x1⟩ := P3.out.bx _ rfl
              obtain ⟨⟨b0, b1, b2, b3⟩, f0, f1, f2, f3⟩ := four_z x1
              have hxl := lt_of_heap x1
              refine wpAnyH_ready (rs := [10]) (by kernel_rfl) (by simp) ?_
              refine AllReadyH.cons (o := ⟨none, _, _, _, _, _⟩) rfl (fun K hK => ?_) AllReadyH.nil
              go_simp
              refine hK.out _ _ ?_ (fun hHeld2 => ?_)
              · exact ⟨kp_cell hY.kp hcl hcr c0, kp_cell hY.kp hcl hcr c1⟩
              clear hK K hHeld P3 b0 b1 b2 b3 f0 f1 f2 f3 x0 x1 hHeld2
              have hY := Lib.hid hY
              try simp only [Act.put, List.setIfInBounds_toArray, List.set_cons_zero, List.set_cons_succ]
              refine wpAnyH_done (by kernel_rfl) ?_ _
              try simp only [Act.put, List.setIfInBounds_toArray, List.set_cons_zero, List.set_cons_succ]
              go_wp2_with fail
              go_meet
              exact ⟨_, _, _, rfl, hY⟩
            refine AllReadyH.cons (o := ⟨some 42, _, _, _, _, _⟩) rfl (fun K hK => ?_) AllReadyH.nil
            have P2 := Lib.hid (P1.out.list hrl2)
            go_simp
            generalize (V1.alloc (.cells #[] 31)) = V2 at P2 ⊢
            refine hK.out _ _ ?_ (fun hHeld2 => ?_)
            · exact ⟨kp_cell P2.out.kp hcl hcr c0, kp_cell P2.out.kp hcl hcr c1⟩
            clear hK K hHeld P1
            have hHeld := hHeld2
            clear hHeld2
            try simp only [Act.put, List.setIfInBounds_toArray, List.set_cons_zero, List.set_cons_succ]
            refine wpAnyH_ready (rs := [5]) (by kernel_rfl) (by simp) ?_
            refine AllReadyH.cons (o := ⟨some 40, _, _, _, _, _⟩) rfl (fun K hK => ?_) AllReadyH.nil
            go_simp
            refine (pick_any 5 r _ _ P2.out.rd (by omega)).mono ?_
            rintro e w4 ⟨s, rfl, s0, s1', hr', hk'⟩
            have s1 := s1' (by omega)
            have P3 := Lib.hid (P2.out.keep hrl2 hr' hk')
            clear s1' hr' hk'
            go_wp2_with fail
            refine hK.out _ _ ?_ (fun hHeld2 => ?_)
            · exact ⟨kp_cell P3.out.kp hcl hcr c0, kp_cell P3.out.kp hcl hcr c1⟩
            clear hK K hHeld P2
            have hHeld := hHeld2
            clear hHeld2
            try simp only [Act.put, List.setIfInBounds_toArray, List.set_cons_zero, List.set_cons_succ]
            refine wpAnyH_take (i := 6) (oi := ⟨some 41, _, _, _, _, _⟩) (v := ?_) rfl (by kernel_rfl) (by kernel_rfl) (by kernel_rfl) (fun _ _ _ h => h) (Or.inl ⟨by rfl, ?_⟩) (by assumption) ?_
            rotate_left 1
            · intro w hSw; (try dsimp only at hSw); go_simp; try (with_reducible rfl)
            try simp only [Act.put, List.setIfInBounds_toArray, List.set_cons_zero, List.set_cons_succ]
            refine wpAnyH_take (i := 8) (oi := ⟨some 43, _, _, _, _, _⟩) (v := ?_) rfl (by kernel_rfl) (by kernel_rfl) (by kernel_rfl) (fun _ _ _ h => h) (Or.inl ⟨by rfl, ?_⟩) (by assumption) ?_
            rotate_left 1
            · intro w hSw; (try dsimp only at hSw); go_simp; try (with_reducible rfl)
            try simp only [Act.put, List.setIfInBounds_toArray, List.set_cons_zero, List.set_cons_succ]
            have hY := P3.out.made hrl2 p q (IntKind.i64.wrap (1 + s))
            obtain ⟨x0, x1⟩ := P3.out.bx _ rfl
            obtain ⟨⟨b0, b1, b2, b3⟩, f0, f1, f2, f3⟩ := four_z x1
            have hxl := lt_of_heap x1
            refine wpAnyH_ready (rs := [10]) (by kernel_rfl) (by simp) ?_
            refine AllReadyH.cons (o := ⟨none, _, _, _, _, _⟩) rfl (fun K hK => ?_) AllReadyH.nil
            go_simp
            refine hK.out _ _ ?_ (fun hHeld2 => ?_)
            · exact ⟨kp_cell hY.kp hcl hcr c0, kp_cell hY.kp hcl hcr c1⟩
            clear hK K hHeld P3 b0 b1 b2 b3 f0 f1 f2 f3 x0 x1 hHeld2
            have hY := Lib.hid hY
            try simp only [Act.put, List.setIfInBounds_toArray, List.set_cons_zero, List.set_cons_succ]
            refine wpAnyH_done (by kernel_rfl) ?_ _
            try simp only [Act.put, List.setIfInBounds_toArray, List.set_cons_zero, List.set_cons_succ]
            go_wp2_with fail
            go_meet
            exact ⟨_, _, _, rfl, hY⟩
            -- R11B
          case rest =>
            obtain ⟨xb, nb, sq, rfl, hY⟩ := hcut
            clear c0 c1
            obtain ⟨wO, hwO⟩ : ∃ W, Hid (wr = W) := ⟨_, Lib.hid rfl⟩
            rw [hwO.out] at hZ hY hrl2 hcl
            go_wp2_with fail
            go_loopw [9] (fun i wr2 => ∃ (k2 : Nat) (du : Value) (D : List Pid), k2 ≤ nc ∧ i = .int .i64 k2 ∧ D.length ≤ k2 ∧ Hid (YS wO wr2 r (n + 20 + j * 12 + 1 + k2) xb p q sq du du D)) (fun i _ => nc - (intOf i).toNat)
            case atStart => exact ⟨0, _, [], Nat.zero_le _, rfl, Nat.zero_le _, hY⟩
            case round =>
              clear hY
              obtain ⟨k2, du, D, hk2, rfl, hD, hY⟩ := hrel
              have hrl3 : r < wO.heap.size := hrl2
              by_cases hlt2 : k2 < nc
              · by_cases hkj : k2 = j
                · subst hkj
                  go_wp2_with fail
                  refine ⟨⟨k2 + 1, du, D, by omega, by go_num, by omega, Lib.hid ⟨hY.out.rd.more (by omega), hY.out.kp, hY.out.row, hY.out.box, hY.out.xl⟩⟩, ?_⟩
                  simp [intOf]; omega
                · have hne : ((k2 : Int) != (j : Int)) = true := by simp; omega
                  go_wp2_with fail
                  refine (pick_any (nc + 1) r _ _ hY.out.rd (by omega)).mono ?_
                  rintro e w3 ⟨x, rfl, x0, x1', hr3, hk3⟩
                  have Y3 := Lib.hid (hY.out.keep hrl3 hr3 hk3)
                  clear hY hr3 hk3 x1'
                  by_cases hx : x = 0
                  · subst hx
                    have hk2C : k2 < C.length := by rw [hnc.out]; exact hlt2
                    have Z3 := hZ.out.of hrl Y3.out
                    obtain ⟨e0, e1⟩ := Z3.ids.cell k2 hk2C
                    obtain ⟨d2, hd2⟩ : ∃ d, Hid (C.getD k2 nop = d) := ⟨_, Lib.hid rfl⟩
                    rw [hd2.out] at e0 e1
                    obtain ⟨p2, q2⟩ := d2
                    dsimp only at e0 e1
                    have hcl3 := Z3.ids.lt
                    clear Z3
                    have Yd := Lib.hid (Y3.out.low hrl3 (Below.drew (Below.refl _ _)))
                    obtain ⟨dg, dc, rfl, _, _, _, _⟩ := Y3.out.row.shape
                    obtain ⟨b0, b1, b2, b3, _⟩ := four_b Y3.out.box
                    have hxl := lt_of_heap Y3.out.box
                    have hY3s := Y3.out.kp.size
                    have rr := Yd.out.row.1
                    obtain ⟨D5, hD5⟩ : ∃ L, Hid (D ++ [(p2, q2)] = L) := ⟨_, Lib.hid rfl⟩
                    have hap := Lib.hid (fun (o : Obj) (w' : World) (v' : Value) (h1 : w'.ownsRow wO.heap.size 31 2 v' (D.length + 1) (flatP D ++ [.int .i64 p2, .int .i64 q2])) (h2 : (w3.drew.alloc o).grownBy w' _) (h3 : v' ≠ .slice none 0 0) => by
                      have := Yd.out.app (o := o) (w' := w') (v' := v') (x := p2) (y := q2) hrl3 h1 h2 h3
                      rw [hD5.out] at this; exact this)
                    obtain ⟨nd, hnd⟩ : ∃ x, Hid (D.length = x) := ⟨_, Lib.hid rfl⟩
                    have hl4 := Lib.hid (show D5.length = nd + 1 by rw [← hD5.out, List.length_append, hnd.out]; rfl)
                    rw [hnd.out] at b3 rr hap hD
                    have rr := Lib.hid rr
                    clear Yd Y3
                    go_wp2_with fail
                    go_region_law (first | (rw [if_pos (by rfl)]; refine wp_append_own _ _ _ 25 rfl wO.heap.size 31 i0 (.agg #[.int .i64 0, .int .i64 0]) 2 16 Try.underlying25 hi hz0 hz1 hz2 rfl (by decide) (.slice (some ⟨dg, 0, none⟩) nd dc) nd (flatP D) rfl (rr.out.alloc (.cells #[.int .i64 p2, .int .i64 q2] 31)) ⟨w3.heap.size, 0, none⟩ 1 1 [.int .i64 p2, .int .i64 q2] rfl rfl (two_src _ _ _ _ _ (by simp)) (two_one _ _) (by unfold maxLen; omega) (by omega) (by simp; omega) ?_; intro v4 w4 hown4 hgrow4 hnil4; have X4 := Lib.hid (hap.out _ w4 _ hown4 hgrow4 (fun e => absurd (hnil4.1 e).2 (by decide))); obtain ⟨g4, c4, rfl, _, _, _, _⟩ := X4.out.row.shape; obtain ⟨_, _, _, m4, f4⟩ := four_b X4.out.box; have hx4 := lt_of_heap X4.out.box; have X5 := Lib.hid (X4.out.store hrl3); clear hown4 hgrow4 hnil4 hap rr X4 b0 b1 b2 b3 e0 e1))
                    all_goals
                      go_wp2_with fail
                      refine ⟨⟨k2 + 1, _, D5, by omega, by go_num, by have := hl4.out; omega, Lib.hid ⟨X5.out.rd.more (by omega), X5.out.kp, X5.out.row, X5.out.box, X5.out.xl⟩⟩, ?_⟩
                      simp [intOf]; omega
                  · have hx' : (x == 0) = false := by simpa using hx
                    go_wp2_with fail
                    refine ⟨⟨k2 + 1, du, D, by omega, by go_num, by omega, Lib.hid ⟨Y3.out.rd.more (by omega), Y3.out.kp, Y3.out.row, Y3.out.box, Y3.out.xl⟩⟩, ?_⟩
                    simp [intOf]; omega
              · have hge2 : ¬ ((k2 : Int) < nc) := by omega
                go_wp2_with fail
                refine (pick_any 10 r _ _ hY.out.rd (by omega)).mono ?_
                rintro e w3 ⟨x, rfl, x0, x1', hr3, hk3⟩
                have Y3 := Lib.hid (hY.out.keep hrl3 hr3 hk3)
                clear hY hr3 hk3 x1'
                obtain ⟨dg, dc, rfl, _, hdg, _, _⟩ := Y3.out.row.shape
                obtain ⟨b0, b1, b2, b3, b4⟩ := four_b Y3.out.box
                have hxl := lt_of_heap Y3.out.box
                obtain ⟨nd, hnd⟩ : ∃ x, Hid (D.length = x) := ⟨_, Lib.hid rfl⟩
                by_cases hx : x = 0
                · subst hx
                  have sp := sput_at dg 0 dc D 4 1 w3 hdg (by omega) (fun i hi => by
                    obtain ⟨bb, _, hbO⟩ := Y3.out.row.own (by omega)
                    obtain ⟨c, e, _⟩ := hbO.shape
                    injection e with e1 _ _; injection e1 with e1; injection e1 with e1 _ _
                    rw [Nat.zero_add, e1]; exact hbO.cell i hi)
                  rw [hnd.out] at sp b3 hD
                  go_wp2_with fail
                  refine sp.mono ?_
                  rintro e w4 ⟨b', u, hb', rfl, hO4, B⟩
                  have hl := (len_putP D (4, 1)).2
                  have E4 := Lib.hid (Y3.out.redo hrl3 hb' B hO4)
                  obtain ⟨uc, rfl, _⟩ := hO4.shape
                  have Y4 := Y3.out.low hrl3 B
                  obtain ⟨b0, b1, b2, b3, b4⟩ := four_b Y4.box
                  have hxl := lt_of_heap Y4.box
                  clear sp B hO4 Y4 Y3
                  have Zr := (E4.out.zs hZ.out hrl).nr.row
                  rw [hj.out] at Zr
                  have Zr := Lib.hid Zr
                  have hzs := (E4.out.zs hZ.out hrl).kp.size
                  obtain ⟨L5, hL5⟩ : ∃ l, Hid (L ++ [((⟨(p, q), sq, putP D (4, 1)⟩ : Nd), .slice (some ⟨b', 0, none⟩) (putP D (4, 1)).length uc)] = l) := ⟨_, Lib.hid rfl⟩
                  have hL5l := Lib.hid (show L5.length = j + 1 by rw [← hL5.out, List.length_append, hj.out]; rfl)
                  go_wp2_with (at_builtin; refine wpList_append_own_at _ rfl _ _ 23 rfl w.heap.size 33 j0 (.agg #[.int .i64 0, .int .i64 0, .int .i64 0, .slice none 0 0]) 4 48 Try.underlying23 hj0 jz0 jz1 jz2 rfl (by decide) _ j (flatD L) rfl (Zr.out.alloc _) ⟨w4.heap.size, 0, none⟩ 1 1 [.int .i64 p, .int .i64 q, .int .i64 sq, .slice (some ⟨b', 0, none⟩) (putP D (4, 1)).length uc] rfl rfl ?fc1 ?fc2 ?fc3 ?fc4 ?fc5 ?_)
                  first | (case fc1 => exact four_srcD _ _ _ _ _ _ _ (by simp)) | skip
                  case fc2 => first | exact four_oneD _ _ _ _ _ _ | (simp; done) | (refine ⟨rfl, rfl, rfl, rfl⟩)
                  case fc3 => unfold maxLen; omega
                  case fc4 => omega
                  case fc5 => first | omega | (simp; omega) | (simp at hzs ⊢; omega)
                  intro v' w5 hown' hgrow hnil hat
                  have Z5 := E4.out.put hZ.out hrl (by rw [hj.out]; exact hown') hgrow (fun e => hnil e) (hat.imp (fun h => h) (fun h => by simpa using h))
                  rw [hL5.out] at Z5
                  have Z5 := Lib.hid Z5
                  clear hown' hgrow hnil hat E4 Zr
                  go_wp2_with fail
                  refine ⟨⟨L5, by have := hL5l.out; omega, by rw [hL5l.out]; go_num, Lib.hid (Z5.out.keep hrl (Z5.out.rd.more (by have := hL5l.out; omega)) (Keep.refl _ _ _))⟩, ?_⟩
                  simp [intOf]; omega
                · have hx' : (x == 0) = false := by simpa using hx
                  have E4 := Lib.hid (Y3.out.es (by omega))
                  clear Y3
                  have Zr := (E4.out.zs hZ.out hrl).nr.row
                  rw [hj.out] at Zr
                  have Zr := Lib.hid Zr
                  have hzs := (E4.out.zs hZ.out hrl).kp.size
                  obtain ⟨L5, hL5⟩ : ∃ l, Hid (L ++ [((⟨(p, q), sq, D⟩ : Nd), .slice (some ⟨dg, 0, none⟩) D.length dc)] = l) := ⟨_, Lib.hid rfl⟩
                  have hL5l := Lib.hid (show L5.length = j + 1 by rw [← hL5.out, List.length_append, hj.out]; rfl)
                  go_wp2_with (at_builtin; refine wpList_append_own_at _ rfl _ _ 23 rfl w.heap.size 33 j0 (.agg #[.int .i64 0, .int .i64 0, .int .i64 0, .slice none 0 0]) 4 48 Try.underlying23 hj0 jz0 jz1 jz2 rfl (by decide) _ j (flatD L) rfl (Zr.out.alloc _) ⟨w3.heap.size, 0, none⟩ 1 1 [.int .i64 p, .int .i64 q, .int .i64 sq, .slice (some ⟨dg, 0, none⟩) D.length dc] rfl rfl ?ec1 ?ec2 ?ec3 ?ec4 ?ec5 ?_)
                  first | (case ec1 => exact four_srcD _ _ _ _ _ _ _ (by simp)) | skip
                  case ec2 => first | exact four_oneD _ _ _ _ _ _ | (simp; done) | (refine ⟨rfl, rfl, rfl, rfl⟩)
                  case ec3 => unfold maxLen; omega
                  case ec4 => omega
                  case ec5 => first | omega | (simp; omega) | (simp at hzs ⊢; omega)
                  intro v' w5 hown' hgrow hnil hat
                  have Z5 := E4.out.put hZ.out hrl (by rw [hj.out]; exact hown') hgrow (fun e => hnil e) (hat.imp (fun h => h) (fun h => by simpa using h))
                  rw [hL5.out] at Z5
                  have Z5 := Lib.hid Z5
                  clear hown' hgrow hnil hat E4 Zr
                  go_wp2_with fail
                  refine ⟨⟨L5, by have := hL5l.out; omega, by rw [hL5l.out]; go_num, Lib.hid (Z5.out.keep hrl (Z5.out.rd.more (by have := hL5l.out; omega)) (Keep.refl _ _ _))⟩, ?_⟩
                  simp [intOf]; omega
        · have hge3 : ¬ ((j : Int) < nc) := by omega
          have hNd := hZ.out.nr.ndo (by rw [hj.out]; omega)
          have hNl : (L.map Prod.fst).length = j := by rw [List.length_map]; exact hj.out
          generalize L.map Prod.fst = N at hNd hNl
          have hNl := Lib.hid hNl
          have hrd := Lib.hid hZ.out.rd
          have hK := Lib.hid hZ.out.kp
          have hNd := Lib.hid hNd
          clear hZ
          go_wp2_with fail
          refine (pick_any 30 r _ _ hrd.out (by omega)).mono ?_
          rintro e w3 ⟨x, rfl, x0, x1', hr3, hk3⟩
          have K3 := Lib.hid (hK.out.trans (hk3.mono hZl))
          have N3 := Lib.hid (hNd.out.keep hk3 hrl)
          have hr3 := Lib.hid hr3
          have hs3 := hk3.size
          clear hK hNd hrd hk3 x1'
          by_cases hx : x = 0
          · subst hx
            obtain ⟨g, cap, rfl, hg0, hgl, hgc, _, _⟩ := N3.out.at_
            rw [hNl.out] at hgc N3 ⊢
            go_wp2_with fail
            refine (pick_any j r _ _ hr3.out (by omega)).mono ?_
            rintro e w4 ⟨y, rfl, y0, y1', hr4, hk4⟩
            have y1 := y1' (by omega)
            obtain ⟨kk, rfl⟩ := Int.eq_ofNat_of_zero_le y0
            have hkk : kk < j := by omega
            have N4 := N3.out.keep hk4 hrl
            have K4 := Lib.hid (K3.out.trans (hk4.mono (by omega)))
            have hs4 := hk4.size
            obtain ⟨g', cap', e, _, hgl4, _, hfr, hcs⟩ := N4.at_
            injection e with e1 e2 e3
            injection e1 with e1
            injection e1 with e1
            subst e1
            clear e2 e3
            obtain ⟨c0, c1, _, u0, c3⟩ := hcs kk (by rw [hNl.out]; exact hkk)
            have f3 := hfr (kk * 4 + 3)
            obtain ⟨d, hd⟩ : ∃ d, Hid ((N.getD kk nd0).id = d) := ⟨_, Lib.hid rfl⟩
            rw [hd.out] at c0 c1
            obtain ⟨p, q⟩ := d
            dsimp only at c0 c1
            have hr4 := Lib.hid hr4
            have N4 := Lib.hid N4
            clear hcs hfr hk4 N3 K3 hr3 y1' y0
            have hR := row_new w4 w4.heap.size (Nat.le_refl _)
            have hR := Lib.hid hR
            have hal : (w4.alloc (.cells #[] 31)).heap.size = w4.heap.size + 1 := by simp
            have hal := Lib.hid hal
            go_wp2_with (at_builtin; refine wpList_append_own_at _ rfl _ _ 25 rfl w4.heap.size 31 i0 (.agg #[.int .i64 0, .int .i64 0]) 2 16 Try.underlying25 hi hz0 hz1 hz2 rfl (by decide) _ _ _ rfl (hR.out.1.alloc _) ⟨w4.heap.size + 1, 0, none⟩ 1 1 [.int .i64 p, .int .i64 q] rfl rfl ?gc1 ?gc2 ?gc3 ?gc4 ?gc5 ?_)
            first | (case gc1 => exact two_cells _ _ _ _ _ (by simp)) | skip
            case gc2 => first | exact ⟨rfl, rfl⟩ | exact two_one _ _
            case gc3 => unfold maxLen; simp
            case gc4 => simp
            case gc5 => simp; omega
            intro v5 w5 hown' hgrow hnil hat
            have hRu : Row ((w4.alloc (.cells #[] 31)).alloc (.cells #[.int .i64 p, .int .i64 q] 31)) w4.heap.size (.slice (some ⟨w4.heap.size, 0, none⟩) 0 0) [] := hR.out.up ((Below.refl _ _).alloc (Nat.le_refl _) _)
            have B5 := ((((Below.refl w4.heap.size w4).alloc (Nat.le_refl _) (.cells #[] 31)).alloc (by simp) (.cells #[.int .i64 p, .int .i64 q] 31))).trans (grown_below hRu hgrow (by simp; omega))
            have R5 := hRu.put (x := p) (y := q) (by simpa using hown') (fun e => hnil e)
            obtain ⟨bq, hbq, hO5⟩ := R5.own (by simp)
            obtain ⟨q5, rfl, _⟩ := hO5.shape
            have N5 := N4.out.up B5
            have N6 := N5.setd (k := kk) (by rw [hNl.out]; exact hkk) (by omega) (fun e => by simp [Value.ownBlock] at e; omega) hO5 rfl
            have bs := (Below.refl w.heap.size w5).setCell (p := ⟨g, kk * 4 + 3, none⟩) hg0 (.slice (some ⟨bq, 0, none⟩) ([] ++ [(p, q)]).length q5)
            have K6 := Lib.hid ((K4.out.trans (Keep.of_below (B5.mono (by omega)))).trans (Keep.of_below bs))
            have hr6 := Lib.hid ((hr4.out.kept (B5.mono (by omega))).kept (bs.mono (by omega)))
            have c5 := (World.cell?_of_block (a := ⟨g, kk * 4 + 3, none⟩) (B5.block g hgl4)).trans c3
            have f5 := (World.frozen?_of_block (a := ⟨g, kk * 4 + 3, none⟩) (B5.block g hgl4)).trans f3
            have hg5 := Nat.lt_of_lt_of_le hgl4 B5.size
            have hNs := Lib.hid (show (N.set kk ⟨(N.getD kk nd0).id, (N.getD kk nd0).seq, [] ++ [(p, q)]⟩).length = j by rw [List.length_set]; exact hNl.out)
            have N6 := Lib.hid N6
            clear hown' hgrow hnil hat hRu B5 R5 hO5 N5 bs hR N4 K4 hr4 c0 c1 c3 f3
            go_wp2_with fail
            go_ret
            exact ⟨_, _, rfl, N6.out, by rw [hNs.out]; omega, by rw [hNs.out]; omega, hr6.out.more (by omega), K6.out⟩
          · have hx' : (x == 0) = false := by simpa using hx
            go_wp2_with fail
            go_ret
            exact ⟨_, N, rfl, N3.out, by rw [hNl.out]; omega, by rw [hNl.out]; omega, hr3.out.more (by omega), K3.out⟩
end Go.Proofs.Ytbklkhndjckckaa

/- DrawNodesOrder. -/
namespace Go.Proofs.Ytbklkhndjckckaa
open Go.RowKit
set_option linter.unusedVariables false

/-- What a draw of nodes leaves. -/
def DnP (w : World) (e : Ending) (w' : World) : Prop := ∃ v N, e = .returned v ∧ Nds w' v N ∧ 0 < N.length ∧ N.length ≤ 8 ∧ Below w.heap.size w w'

set_option maxRecDepth 100000 in
set_option maxHeartbeats 2000000 in
theorem dnord_any (a : Option Addr) (len cap : Nat) (w : World) (hc : CodeIn w a len cap) (hcap : cap ≤ maxLen) :
    Calls Try.prog 10 #[.slice a len cap] w (DnP w) := by
  have hc := Lib.hid hc
  have hcap := Lib.hid hcap
  go_enter Try.func10, Try.ntmps10
  go_wp2_with fail
  refine (open_any a len cap _ hc.out hcap.out).mono ?_
  rintro e w1 ⟨r, rfl, hr0, hr', hb'⟩
  have s1 := hb'.size
  have D1 : Hid (Below w.heap.size w w1) := Lib.hid hb'
  have hr1 := Lib.hid hr'
  clear hr' hb' hc hcap
  go_wp2_with fail
  refine (nodes_any r 0 _ hr1.out (by omega)).mono ?_
  rintro e w2 ⟨v, N, rfl, hN, hp, hl, _, hk2⟩
  have D2 : Hid (Below w.heap.size w w2) := Lib.hid (D1.out.trans ((hk2.mono s1).below hr0))
  have hN := Lib.hid hN.read
  clear hk2 D1 hr1
  go_wp2_with fail
  go_ret
  exact ⟨v, N, rfl, hN.out, hp, hl, D2.out⟩
end Go.Proofs.Ytbklkhndjckckaa

/- The program's NodesReady. -/
namespace Go.Proofs.Ytbklkhndjckckaa
open Go.RowKit
set_option linter.unusedVariables false

set_option maxRecDepth 100000 in
theorem iready_any (u : Value) (N : List Nd) (x y : Int) (w : World) (h : Nds w u N) :
    Calls Try.prog 15 #[u, .agg #[.int .i64 x, .int .i64 y]] w fun e w' => e = .returned (.bool (readyR N (x, y))) ∧ Below w.heap.size w w' := by
  have D0 := (Below.refl w.heap.size w).alloc (Nat.le_refl _) (.cells #[.int .i64 x, .int .i64 y] 31)
  have gr := gwith_any u N x y _ (h.up D0 (Nat.le_refl _))
  have D0 := Lib.hid D0
  clear h
  go_enter Try.func15, Try.ntmps15
  go_wp2_with fail
  refine gr.mono ?_
  rintro e w1 ⟨gb, f, r, rd, rfl, hG, B⟩
  obtain ⟨mv, hb⟩ := hG.gb
  have c11 := hb.c11
  have hl := hb.lt
  have hr := Lib.hid hG.rdy
  have D1 := Lib.hid (bstep D0.out B)
  clear gr B hG hb D0
  go_wp2_with fail
  go_ret
  first | exact ⟨ret_bool hr.out, D1.out⟩ | exact ⟨hr.out, D1.out⟩
end Go.Proofs.Ytbklkhndjckckaa
