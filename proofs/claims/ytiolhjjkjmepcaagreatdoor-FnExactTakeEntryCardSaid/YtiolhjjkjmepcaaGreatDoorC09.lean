/- Texts laid together. -/
import Derived.Test.YtiolhjjkjmepcaaGreatDoorC01
import Derived.RangeFuncNested
import Derived.RangeFuncBound
import Derived.RangeFuncCalls
import Derived.RangeFuncLeaves
import Derived.RangeFuncBox
import Derived.Shelf.Abstract
import Derived.Shelf.RegionOpen
import Derived.WalkKit
import Derived.OwnWalkIn
import Derived.TacticsInMore
import Derived.LoopNIn
import Derived.LoopIn
import Derived.Sort.MapsRangeIn
import Derived.Maps.OwnSet
import Derived.Sort.KeysCollected
/- What reads as a key of a book. -/
namespace Go.Proofs.YtiolhjjkjmepcaaGreatDoor
open Go.RowKit
set_option linter.unusedVariables false
set_option maxRecDepth 100000

/-- What reads as an id is one. -/
theorem key_inv {v : Value} {l : Lit} (h : keyOf Tryz.prog 25 v = some l) : ∃ a : Pid, v = idv2 a ∧ inR a := by
  obtain ⟨m, hm⟩ : ∃ m, Tryz.prog.types.size = m + 1 := ⟨Tryz.prog.types.size - 1, (Nat.succ_pred_eq_of_pos (of_decide_eq_true (by kernel_rfl))).symm⟩
  have c2 : Tryz.prog.cellsOf 25 = 2 := by kernel_rfl
  have c1 : Tryz.prog.cellsOf 3 = 1 := by kernel_rfl
  have kt : Tryz.prog.keyType 25 = true := by kernel_rfl
  unfold keyOf at h
  rw [hm, Tryz.underlying25] at h
  dsimp only at h
  split at h
  · rename_i hf
    rw [kt] at hf
    cases v with
    | agg cs =>
      have hs : cs.size = 2 := by simpa [Value.formed, Tryz.underlying25, c2] using hf
      obtain ⟨x, y, rfl⟩ : ∃ x y, cs = #[x, y] := by
        match cs, hs with
        | ⟨[x, y]⟩, _ => exact ⟨x, y, rfl⟩
      unfold Program.keyLits at h
      rw [Tryz.underlying25] at h
      simp [Value.cells, c2, c1, Program.keyLits, Tryz.underlying3] at h
      cases x with
      | int q n =>
        by_cases e1 : q = .i64 ∧ (Lit.int .i64 n).wf = true
        · cases y with
          | int q' n' =>
            by_cases e2 : q' = .i64 ∧ (Lit.int .i64 n').wf = true
            · obtain ⟨rfl, w1⟩ := e1
              obtain ⟨rfl, w2⟩ := e2
              exact ⟨(n, n'), rfl, w1, w2⟩
            · simp [e1, e2] at h
          | _ => simp [e1] at h
        · simp [e1] at h
      | _ => simp at h
    | _ => simp [Value.formed, Tryz.underlying25] at hf
  · cases h
theorem idv2_inj {x y : Pid} (h : idv2 x = idv2 y) : x = y := by
  unfold idv2 at h
  injection h with h
  have e1 := congrArg (fun x : Array Value => x[0]?) h
  have e2 := congrArg (fun x : Array Value => x[1]?) h
  simp at e1 e2
  exact Prod.ext e1 e2
end Go.Proofs.YtiolhjjkjmepcaaGreatDoor

/- maps.Keys at a book of entries: its iterator. -/
namespace Go.Proofs.YtiolhjjkjmepcaaGreatDoor
open Go.RowKit Go.Shelf
open Go.Maps (Keyed IsMap)
set_option linter.unusedVariables false
attribute [local go_sem] Oper.semAt_some

/-- An id in the range of int. -/
abbrev KId : Type := { a : Pid // inR a }
def kvs (L : List KId) : List Pid := L.map fun x => x.1
theorem kvs_app (L : List KId) (x : KId) : kvs (L ++ [x]) = kvs L ++ [x.1] := by unfold kvs; rw [List.map_append]; rfl
/-- What a book has as keys. -/
def KeysOf (M : Pid → Option Value) (Ks : List Pid) : Prop := Ks.Nodup ∧ (∀ a ∈ Ks, inR a) ∧ ∀ a, inR a → ((M a).isSome = true ↔ a ∈ Ks)
theorem kvs_len {L : List KId} {Ks : List Pid} (h1 : (kvs L).Nodup) (h2 : ∀ a ∈ kvs L, a ∈ Ks) : L.length ≤ Ks.length := by
  have key : ∀ {A B : List Pid}, A.Nodup → (∀ x ∈ A, x ∈ B) → A.length ≤ B.length := by
    intro A
    induction A with
    | nil => intro B _ _; exact Nat.zero_le _
    | cons a r ih =>
      intro B hA hB
      obtain ⟨h1, h2⟩ := List.nodup_cons.1 hA
      have hb := hB a List.mem_cons_self
      have := ih (B := B.erase a) h2 (fun x hx => (List.mem_erase_of_ne (fun e : x = a => h1 (by rw [← e]; exact hx))).2 (hB x (List.mem_cons_of_mem _ hx)))
      rw [List.length_erase_of_mem hb] at this
      have : 0 < B.length := List.length_pos_of_mem hb
      simp only [List.length_cons]; omega
  have := key h1 h2
  unfold kvs at this
  rwa [List.length_map] at this

set_option maxRecDepth 100000 in
set_option maxHeartbeats 2000000 in
/-- 'func(yield) { for k := range m { if !yield(k) { return } } }': THE KEYS COME, EACH ONCE. -/
theorem ikeys_in (F : Fence) (n : Nat) (hf : F.fn 94) (hro : F.round = none) (hn : 1 ≤ n) (l Bm bb nn : Nat) (M : Pid → Option Value) (Ks : List Pid) (hKs : KeysOf M Ks) (J Jx : List KId → World → Prop)
    (hY : ∀ pre x W, J pre W → pre.length < Ks.length → YieldAt F (n - 1) Tryz.prog l #[idv2 x.1] W fun e W' =>
      (e = .returned (.bool true) ∧ J (pre ++ [x]) W' ∧ KeepsWalks W W') ∨ (e = .returned (.bool false) ∧ Jx (pre ++ [x]) W'))
    (W : World) (hJ : AbidesFrom W.heap.size J) (hm : W.cell? ⟨Bm, 0, none⟩ = some (.map (some bb))) (hown : Book W bb nn M) (h0 : J [] W) :
    CallsIn F n Tryz.prog 94 #[.func (.yield l) #[] #[], .pointer (some ⟨Bm, 0, none⟩)] W fun e W' => (∃ v, e = .returned v) ∧
      ((∃ ss : List KId, ((kvs ss).Nodup ∧ ∀ a, a ∈ kvs ss ↔ a ∈ Ks) ∧ J ss W') ∨ (∃ pre : List KId, True ∧ Jx pre W')) := by
  obtain ⟨D, hD, hM⟩ := hown
  refine callsIn_of_wp Tryz.func94 rfl hf ?_ hro
  simp only [Tryz.ntmps94, List.size_toArray, List.length_cons, List.length_nil, Nat.reduceAdd, Nat.reduceSub, Array.replicate_succ, Array.replicate_zero, List.push_toArray, List.append_toArray, List.nil_append, List.cons_append]
  gi_wp2_with (first
    | (gi_at_range; refine wpListIn_range_own _ rfl _ 60 rfl 25 30 id_law Tryz.underlying60 _ bb nn _ rfl hD ?_; intro w0 hrg0 hg0 hs0)
    | gi_in)
  go_frame
  gi_loopw [3] (fun _ wr => ∃ (left : Lit → Bool) (cnt : Nat) (ss : List KId), wr.ranges Tryz.prog 25 Rv bb W.heap.size nn D left cnt ∧ (∀ kl, left kl = true → Maps.has D kl = true) ∧ (∀ a ∈ Ks, left (klP a) = !decide (a ∈ kvs ss)) ∧ ((kvs ss).Nodup ∧ ∀ a ∈ kvs ss, a ∈ Ks) ∧ J ss wr)
    (fun _ wr => wr.rangeLeft bb W.heap.size)
  case atStart =>
    exact ⟨_, _, [], hrg0, fun _ h => h, fun a ha => by rw [(hM a (hKs.2.1 a ha)).1, (hKs.2.2 a (hKs.2.1 a ha)).2 ha]; rfl, ⟨List.Pairwise.nil, fun _ h => nomatch h⟩, hJ [] W w0 none h0 hg0 (fun r e => by cases e)⟩
  case round =>
    obtain ⟨left, cnt, ss, hrg, hlh, hlK, hN, hJs⟩ := hrel
    gi_wp2_with (first
      | (gi_at_next; refine wpListIn_next_ranges _ rfl _ rfl 25 id_law Rv idv2 id (fun key kl hk => by obtain ⟨x, e, _⟩ := key_inv hk; exact ⟨x, e⟩) (fun v _ _ => ⟨v, rfl⟩) bb W.heap.size nn _ _ _ rfl hrg ?_ ?_)
      | gi_in)
    · intro hc0 hl0
      gi_wp2
      go_end0
      refine ⟨⟨_, rfl⟩, .inl ⟨ss, ⟨hN.1, fun a => ⟨hN.2 a, fun ha => ?_⟩⟩, hJs⟩⟩
      have := hlK a ha
      rw [hl0] at this
      by_cases hin : a ∈ kvs ss
      · exact hin
      · simp [hin] at this
    · intro x1 x2 c kl yd yp w2 cnt2 hkey hlk hv hat hrg2 hlt hg2 hs2 hen
      obtain ⟨x, hxe⟩ : ∃ x : Pid, (x1, x2) = x := ⟨_, rfl⟩
      rw [hxe] at hkey hen ⊢
      obtain ⟨x', ex, hx⟩ := key_inv hkey
      obtain rfl := idv2_inj ex
      have hkl : kl = klP x := by have := key_of hx; rw [this] at hkey; injection hkey with e; exact e.symm
      subst hkl
      have hxK : x ∈ Ks := by
        have hh := hlh _ hlk
        rw [(hM x hx).1] at hh
        exact (hKs.2.2 x hx).1 hh
      have hxn : ¬ x ∈ kvs ss := fun hin => by have := hlK x hxK; rw [hlk] at this; simp [hin] at this
      have hJ2 : J ss w2 := hJ ss wr w2 (some W.heap.size) hJs hg2 (fun r e => by cases e; exact ⟨Nat.le_refl _, hrg.iter_walk⟩)
      have hJ3 : J ss (w2.alloc (.cells #[.int .i64 x.1, .int .i64 x.2] 25)) := hJ ss w2 _ none hJ2 (World.grownBy_alloc w2 _ none) (fun r e => by cases e)
      have hN2 : (kvs (ss ++ [⟨x, hx⟩])).Nodup ∧ ∀ a ∈ kvs (ss ++ [⟨x, hx⟩]), a ∈ Ks := by
        rw [kvs_app]
        refine ⟨List.nodup_append.2 ⟨hN.1, by simp, fun a ha b hb => ?_⟩, fun a ha => ?_⟩
        · rw [List.mem_singleton] at hb; subst hb; exact fun e => hxn (by rw [← e]; exact ha)
        · rcases List.mem_append.1 ha with ha | ha
          · exact hN.2 a ha
          · rw [List.mem_singleton] at ha; rw [ha]; exact hxK
      have hlen : ss.length < Ks.length := by
        have := kvs_len hN2.1 hN2.2
        simp at this; omega
      obtain ⟨fn, tmps, assign, body, hy, hR⟩ := hY ss ⟨x, hx⟩ _ hJ3 hlen
      have hrg3 := hrg2.alloc (.cells #[.int .i64 x.1, .int .i64 x.2] 25)
      unfold idv2 at hen hy
      unfold idv2
      dsimp only at hy
      clear hs2
      gi_wp2
      refine hR.mono ?_
      have hlK2 : ∀ a ∈ Ks, (left (klP a) && !(klP a).sameKey (klP x)) = !decide (a ∈ kvs (ss ++ [⟨x, hx⟩])) := fun a ha => by
        rw [hlK a ha, kvs_app]
        by_cases e : a = x
        · subst e
          rw [WideAt.sameKey_self (kl_key hx)]
          simp
        · have hne : klP a ≠ klP x := fun h => e (kl_inj (hKs.2.1 a ha) hx h)
          have hs : (klP a).sameKey (klP x) = false := by
            cases hs : (klP a).sameKey (klP x) with
            | false => rfl
            | true => exact absurd (WideAt.sameKey_eq hs) hne
          rw [hs]
          simp [e]
      rintro e W3 (⟨rfl, hJ4, hk3⟩ | ⟨rfl, hJx3⟩)
      · gi_wp2
        have hrg4 := hrg3.of_walks hk3
        go_roundw
        case rel => exact ⟨_, cnt2, ss ++ [⟨x, hx⟩], hrg4, fun kl' hl' => hlh kl' (by simp at hl'; exact hl'.1), hlK2, hN2, hJ4⟩
        case measure => rw [hrg4.left_eq, hrg.left_eq]; exact hlt
      · gi_wp2
        refine bodyPost_ret (results_none rfl _ _ _) rfl ?_
        exact ⟨⟨_, rfl⟩, .inr ⟨ss ++ [⟨x, hx⟩], trivial, hJx3⟩⟩

/-- maps.Keys(b) HANDS BACK AN ITERATOR. -/
theorem keys_stops (F : Fence) (n : Nat) (hf : F.fn 94) (hro : F.round = none) (hn : 1 ≤ n) (Bm bb nn : Nat) (M : Pid → Option Value) (Ks : List Pid) (hKs : KeysOf M Ks) (w : World) (hBm : Bm < w.heap.size)
    (hm : w.cell? ⟨Bm, 0, none⟩ = some (.map (some bb))) (hown : Book w bb nn M) :
    SeqStopsK F n Tryz.prog 94 #[.pointer (some ⟨Bm, 0, none⟩)] (fun x : KId => #[idv2 x.1]) KeepsWalks (fun ss => (kvs ss).Nodup ∧ ∀ a, a ∈ kvs ss ↔ a ∈ Ks) (fun _ => True) Ks.length w := fun l J Jx W hW hJ _ hY h0 =>
  ikeys_in F n hf hro hn l Bm bb nn M Ks hKs J Jx hY W hJ ((hW.cell (p := ⟨Bm, 0, none⟩) hBm).trans hm) (hown.up hW hown.lt) h0

set_option maxHeartbeats 1000000 in
/-- maps.Keys(b): the map is boxed; the function value captures the box. -/
theorem keys_any (mb : Option Nat) (w : World) :
    Calls Tryz.prog 78 #[.map mb] w fun e w' => e = .returned (.func (.func 94) #[] #[.pointer (some ⟨w.heap.size, 0, none⟩)]) ∧ w' = w.alloc (.cells #[.map mb] 60) := by
  go_enter Tryz.func78, Tryz.ntmps78
  go_wp2_with fail
  go_ret
  exact ⟨rfl, rfl⟩
end Go.Proofs.YtiolhjjkjmepcaaGreatDoor

/- How many entries a book of ids has. -/
namespace Go.Proofs.YtiolhjjkjmepcaaGreatDoor
open Go.RowKit
open Go.Maps (Keyed IsMap)
set_option linter.unusedVariables false
set_option maxRecDepth 100000

open Classical in
/-- The id of a map's entry. -/
noncomputable def keyId (l : Lit) : Pid := if h : ∃ a, inR a ∧ l = klP a then h.choose else nop
theorem keyId_at {l : Lit} (h : ∃ a, inR a ∧ l = klP a) : inR (keyId l) ∧ l = klP (keyId l) := by
  unfold keyId
  rw [dif_pos h]
  exact h.choose_spec

theorem same_lit {l l' : Lit} (e : l = l') (h : l'.sameKey l' = true) : l.sameKey l' = true := by subst e; exact h
theorem book_len {w : World} {bb n : Nat} {M : Pid → Option Value} {Ks : List Pid} (h : Book w bb n M) (hK : KeysOf M Ks) :
    ∃ D : DataW Value, w.ownsMap Tryz.prog 25 Rv bb n D ∧ Maps.size D = Ks.length := by
  obtain ⟨D, hown, hM⟩ := h
  obtain ⟨es, hD, hpw, _⟩ := hown.entries id_law
  obtain ⟨es', hD', hko⟩ := hown.keysOf
  obtain rfl : es = es' := by rw [hD] at hD'; simpa using hD'
  refine ⟨D, hown, ?_⟩
  have hinv : ∀ p ∈ es, ∃ a, inR a ∧ p.1 = klP a := fun p hp => by
    obtain ⟨v, hv⟩ := hko p hp
    obtain ⟨a, rfl, ha⟩ := key_inv hv
    have := key_of ha
    rw [hv] at this
    injection this with e
    exact ⟨a, ha, e⟩
  subst hD
  have hnd : (es.map fun p => keyId p.1).Nodup := by
    refine List.pairwise_map.2 (hpw.imp_of_mem fun {p q} hp hq hne e => hne ?_)
    rw [(keyId_at (hinv p hp)).2, (keyId_at (hinv q hq)).2, e]
  have hmem : ∀ x, x ∈ (es.map fun p => keyId p.1) ↔ x ∈ Ks := fun x => by
    rw [List.mem_map]
    constructor
    · rintro ⟨p, hp, rfl⟩
      obtain ⟨h1, h2⟩ := keyId_at (hinv p hp)
      refine (hK.2.2 _ h1).1 ?_
      rw [← (hM _ h1).1, Maps.has_eq, List.any_eq_true]
      exact ⟨p, hp, same_lit h2 (WideAt.sameKey_self (kl_key h1))⟩
    · intro hx
      have h1 := hK.2.1 x hx
      have h2 := (hK.2.2 x h1).2 hx
      rw [← (hM _ h1).1, Maps.has_eq, List.any_eq_true] at h2
      obtain ⟨p, hp, hs⟩ := h2
      have e := WideAt.sameKey_eq hs
      obtain ⟨g1, g2⟩ := keyId_at (hinv p hp)
      exact ⟨p, hp, kl_inj g1 h1 (g2.symm.trans e)⟩
  have := ((List.perm_ext_iff_of_nodup hnd hK.1).2 hmem).length_eq
  rw [List.length_map] at this
  exact this
end Go.Proofs.YtiolhjjkjmepcaaGreatDoor
