/- Texts laid together. -/
import Derived.Test.YtbbnchodchgioaaDoorC01
import Derived.Deep.RegionWith
import Derived.Test.YtbbnchodchgioaaDoorC11
import Derived.Test.YtbbnchodchgioaaDoorC17
import Derived.Test.YtbbnchodchgioaaDoorC31
import Derived.Test.YtbbnchodchgioaaDoorC32
import Derived.Test.YtbbnchodchgioaaDoorC20
/- The laws' sizes of slices of nodes. -/
namespace Go.Proofs.YtbbnchodchgioaaDoor
open Go.RowKit
set_option linter.unusedVariables false

/-- A node that came in: what it depends on may be long. -/
def LN (w : World) (b o : Nat) : Prop := ∃ (p r s : Int) (ua : Option Addr) (un uc : Nat), w.cell? ⟨b, o, none⟩ = some (.int .i64 p) ∧ w.cell? ⟨b, o + 1, none⟩ = some (.int .i64 r) ∧ w.cell? ⟨b, o + 2, none⟩ = some (.int .i64 s) ∧ w.cell? ⟨b, o + 3, none⟩ = some (.slice ua un uc) ∧ un ≤ maxLen ∧ (1048576 < un ∨ ∃ C, Ids w (.slice ua un uc) C)
/-- Nodes that came in. -/
def LNs (w : World) (a : Option Addr) (len cap : Nat) : Prop := len ≤ maxLen ∧ len ≤ cap ∧ (len = 0 ∨ ∃ b off, a = some ⟨b, off, none⟩ ∧ b < w.heap.size ∧ ∀ i, i < len → LN w b (off + i * 4))

set_option maxRecDepth 100000 in
theorem szN_any (p r s : Int) (ua : Option Addr) (un uc : Nat) (k : Int) (w : World) (hk : 0 ≤ k) (hk2 : k ≤ 1048576) (h : un ≤ 9223372036854775807) :
    Calls Tryd.prog 60 #[.agg #[.int .i64 p, .int .i64 r, .int .i64 s, .slice ua un uc], .int .i64 k] w fun e w' => e = .returned (.int .i64 (if k < un then -1 else k - un)) ∧ Below w.heap.size w w' := by
  have sz := fun w => szP_gen ua un uc k w hk hk2 h
  by_cases hl : k < un
  · rw [if_pos hl] at sz ⊢
    go_enter Tryd.func60, Tryd.ntmps60
    go_wp2_with fail
    refine (sz _).mono ?_
    rintro e w1 ⟨rfl, hb⟩
    have D1 := Lib.hid (((Below.refl w.heap.size w).alloc (Nat.le_refl _) (.cells #[.int .i64 p, .int .i64 r, .int .i64 s, .slice ua un uc] 79)).trans (hb.mono (by simp)))
    clear hb sz
    go_wp2_with fail
    go_ret
    exact ⟨rfl, D1.out⟩
  · rw [if_neg hl] at sz ⊢
    obtain ⟨z, hz⟩ : ∃ z, k - (un : Int) = z := ⟨_, rfl⟩
    rw [hz] at sz ⊢
    have hz0 : ¬ z < 0 := by omega
    go_enter Tryd.func60, Tryd.ntmps60
    go_wp2_with fail
    refine (sz _).mono ?_
    rintro e w1 ⟨rfl, hb⟩
    have D1 := Lib.hid (((Below.refl w.heap.size w).alloc (Nat.le_refl _) (.cells #[.int .i64 p, .int .i64 r, .int .i64 s, .slice ua un uc] 79)).trans (hb.mono (by simp)))
    clear hb sz
    go_wp2_with fail
    go_ret
    exact ⟨rfl, D1.out⟩

set_option maxRecDepth 100000 in
set_option maxHeartbeats 2000000 in
theorem szNs_at (b off ca n : Nat) (w : World) (hb : b < w.heap.size) (hm : n ≤ 9223372036854775807) (h : ∀ i, i < n → LN w b (off + i * 4)) :
    Calls Tryd.prog 31 #[.slice (some ⟨b, off, none⟩) n ca, .int .i64 1048576] w fun e w' => (∃ z : Int, e = .returned (.int .i64 z) ∧ (z = -1 ∨ 0 ≤ z ∧ n ≤ 1048576 ∧ ∀ i, i < n → ∃ x, NdIn w b (off + i * 4) x)) ∧ Below w.heap.size w w' := by
  have h := Lib.hid h
  by_cases hl : 1048576 < n
  · go_enter Tryd.func31, Tryd.ntmps31
    go_wp2_with fail
    go_ret
    exact ⟨⟨_, rfl, .inl rfl⟩, Below.refl _ _⟩
  · go_enter Tryd.func31, Tryd.ntmps31
    go_wp2_with fail
    go_loopw [1, 5] (fun q i wr => ∃ (k : Nat) (l : Int), k ≤ n ∧ i = .int .i64 k ∧ q = .int .i64 l ∧ 0 ≤ l ∧ l ≤ 1048576 ∧ Hid (∀ i, i < k → ∃ x, NdIn w b (off + i * 4) x) ∧ Below w.heap.size w wr) (fun _ i _ => n - (intOf i).toNat)
    case atStart => exact ⟨0, 1048576 - n, Nat.zero_le _, rfl, rfl, by omega, by omega, Lib.hid (fun i hi => absurd hi (Nat.not_lt_zero _)), Below.refl _ _⟩
    case round =>
      obtain ⟨k, l, hk, rfl, rfl, hl0, hl1, hd, hnx⟩ := hrel
      by_cases hlt : k < n
      · obtain ⟨p, r, s, ua, un, uc, c0, c1, c2, c3, hun, hC⟩ := h.out k hlt
        have q0 := (hnx.cell (p := ⟨b, off + k * 4, none⟩) hb).trans c0
        have q1 := (hnx.cell (p := ⟨b, off + k * 4 + 1, none⟩) hb).trans c1
        have q2 := (hnx.cell (p := ⟨b, off + k * 4 + 2, none⟩) hb).trans c2
        have q3 := (hnx.cell (p := ⟨b, off + k * 4 + 3, none⟩) hb).trans c3
        have sz := fun w => szN_any p r s ua un uc l w hl0 hl1 (by simpa [maxLen] using hun)
        have hnx := Lib.hid hnx
        by_cases hlu : l < un
        · rw [if_pos hlu] at sz
          clear hC hd h c0 c1 c2 c3
          go_wp2_with fail
          refine (sz _).mono ?_
          rintro e w1 ⟨rfl, hb1⟩
          have D1 := Lib.hid (hnx.out.trans (hb1.mono hnx.out.size))
          clear hb1 sz hnx
          go_wp2_with fail
          go_ret
          exact ⟨⟨_, rfl, .inl rfl⟩, D1.out⟩
        · rw [if_neg hlu] at sz
          have hd := Lib.hid (up_to hd.out (by
            obtain ⟨C, hC⟩ := hC.resolve_left (by omega)
            exact ⟨⟨(p, r), s, C⟩, ua, un, uc, c0, c1, c2, c3, hC⟩))
          obtain ⟨z, hz⟩ : ∃ z, l - (un : Int) = z := ⟨_, rfl⟩
          rw [hz] at sz
          have hz0 : ¬ z < 0 := by omega
          have hz1 : z ≤ 1048576 := by omega
          clear hC c0 c1 c2 c3 h
          go_wp2_with fail
          refine (sz _).mono ?_
          rintro e w1 ⟨rfl, hb1⟩
          have D1 := Lib.hid (hnx.out.trans (hb1.mono hnx.out.size))
          clear hb1 sz hnx
          go_wp2_with fail
          go_roundw
          case rel => exact ⟨k + 1, z, by omega, by go_num, rfl, by omega, hz1, hd, D1.out⟩
          case measure => simp [intOf]; omega
      · obtain rfl : k = n := by omega
        have hnx := Lib.hid hnx
        clear h
        go_wp2_with fail
        go_ret
        exact ⟨⟨_, rfl, .inr ⟨hl0, by omega, hd.out⟩⟩, hnx.out⟩

set_option maxRecDepth 100000 in
theorem szNs_nil (a : Option Addr) (ca : Nat) (w : World) :
    Calls Tryd.prog 31 #[.slice a 0 ca, .int .i64 1048576] w fun e w' => e = .returned (.int .i64 1048576) ∧ Below w.heap.size w w' := by
  go_enter Tryd.func31, Tryd.ntmps31
  go_wp2_with fail
  refine wp_loop_rounds 1 ?_
  rw [rounds_succ]
  go_wp2_with fail
  go_ret
  exact ⟨rfl, Below.refl _ _⟩

theorem nds_of {w : World} {b off n ca : Nat} (hca : n ≤ ca) (hb : b < w.heap.size) (hn : n ≤ 2000000) (h : ∀ i, i < n → ∃ x, NdIn w b (off + i * 4) x) : ∃ N : List Nd, N.length = n ∧ Nds w (.slice (some ⟨b, off, none⟩) n ca) N := by
  haveI : Inhabited Nd := ⟨nd0⟩
  have hf : ∃ f : Nat → Nd, ∀ i, i < n → NdIn w b (off + i * 4) (f i) := by
    refine ⟨fun i => if hi : i < n then (h i hi).choose else nd0, fun i hi => ?_⟩
    show NdIn w b (off + i * 4) (if hi : i < n then (h i hi).choose else nd0)
    rw [dif_pos hi]; exact (h i hi).choose_spec
  obtain ⟨f, hf⟩ := hf
  have hl : ((List.range n).map f).length = n := by simp
  refine ⟨(List.range n).map f, hl, some ⟨b, off, none⟩, ca, by rw [hl], by omega, by omega, .inr ⟨b, off, rfl, hb, fun i hi => ?_⟩⟩
  rw [hl] at hi
  have hg : ((List.range n).map f).getD i nd0 = f i := by
    rw [List.getD_eq_getElem?_getD, List.getElem?_map, List.getElem?_range hi]; rfl
  rw [hg]; exact hf i hi

theorem szNs_any (a : Option Addr) (len cap : Nat) (w : World) (h : LNs w a len cap) :
    Calls Tryd.prog 31 #[.slice a len cap, .int .i64 1048576] w fun e w' => (∃ z : Int, e = .returned (.int .i64 z) ∧ (z = -1 ∨ 0 ≤ z ∧ ∃ N, N.length ≤ 1048576 ∧ Nds w (.slice a len cap) N)) ∧ Below w.heap.size w w' := by
  obtain ⟨hm, hca, h⟩ := h
  rcases h with rfl | ⟨b, off, rfl, hb, h⟩
  · refine (szNs_nil a cap w).mono ?_
    rintro e w1 ⟨rfl, hb⟩
    exact ⟨⟨_, rfl, .inr ⟨by omega, [], Nat.zero_le _, a, cap, rfl, Nat.zero_le _, Nat.zero_le _, .inl rfl⟩⟩, hb⟩
  · refine (szNs_at b off cap len w hb (by simpa [maxLen] using hm) h).mono ?_
    rintro e w1 ⟨⟨z, rfl, hz⟩, hb1⟩
    refine ⟨⟨z, rfl, hz.imp id fun ⟨h0, h1, h2⟩ => ?_⟩, hb1⟩
    obtain ⟨N, hN, hh⟩ := nds_of (ca := cap) hca hb (by omega) h2
    exact ⟨h0, N, by omega, hh⟩
end Go.Proofs.YtbbnchodchgioaaDoor

/- The walks of FnExactNodesReach and FnExactNodesGroup. -/
namespace Go.Proofs.YtbbnchodchgioaaDoor
open Go.RowKit
set_option linter.unusedVariables false

theorem OwnP.kept {w w' : World} {b r : Nat} {v : Value} {C : List Pid} (h : OwnP w b v C) (hk : Keep w.heap.size r w w') (hr : b ≠ r) : OwnP w' b v C := h.same (hk.block b h.lt hr)
theorem OwnP.apart {P : Nat → Prop} {w w' : World} {b : Nat} {v : Value} {C : List Pid} (h : OwnP w b v C) (he : Exc P w w') (hn : ¬ P b) : OwnP w' b v C := h.same (he.block b h.lt hn)

theorem lns_up {w w' : World} {B : Nat} {a : Option Addr} {len cap : Nat} (h : LNs w a len cap) (hb : Below B w w') (hB : w.heap.size ≤ B) : LNs w' a len cap := by
  obtain ⟨h1, h2, h3⟩ := h
  refine ⟨h1, h2, ?_⟩
  rcases h3 with h3 | ⟨b, off, rfl, hl, hc⟩
  · exact .inl h3
  · refine .inr ⟨b, off, rfl, Nat.lt_of_lt_of_le hl hb.size, fun i hi => ?_⟩
    obtain ⟨p, r, s, ua, un, uc, e0, e1, e2, e3, e4, e5⟩ := hc i hi
    have hcc : ∀ o, w'.cell? ⟨b, o, none⟩ = w.cell? ⟨b, o, none⟩ := fun o => hb.cell (p := ⟨b, o, none⟩) (Nat.lt_of_lt_of_le hl hB)
    exact ⟨p, r, s, ua, un, uc, by rw [hcc]; exact e0, by rw [hcc]; exact e1, by rw [hcc]; exact e2, by rw [hcc]; exact e3, e4, e5.imp id fun ⟨C, hC⟩ => ⟨C, hC.up hb hB⟩⟩

set_option maxRecDepth 100000 in
set_option maxHeartbeats 8000000 in
theorem exNodesReach_any (a : Option Addr) (len cap : Nat) (x y : Int) (w : World) (h : LNs w a len cap) (hT : TabIn w) :
    Calls Tryd.prog 12 #[.slice a len cap, .agg #[.int .i64 x, .int .i64 y]] w fun e w' => e = .returned (.bool true) ∧ Below w.heap.size w w' := by
  have D0 := (Below.refl w.heap.size w).alloc (Nat.le_refl _) (.cells #[.int .i64 x, .int .i64 y] 43)
  have sz := szNs_any a len cap _ (lns_up h D0 (Nat.le_refl _))
  have hI := Lib.hid (heap_alloc_new w (.cells #[.int .i64 x, .int .i64 y] 43))
  have D0 := Lib.hid D0
  clear h
  go_enter Tryd.func12, Tryd.ntmps12
  go_wp2_with fail
  refine sz.mono ?_
  rintro e w1 ⟨⟨z, rfl, hz⟩, B⟩
  have D := Lib.hid (bstep D0.out B)
  have hI := Lib.hid (bblk B (by simp) hI.out)
  have hil := lt_of_heap hI.out
  have hT := Lib.hid (hT.up D.out (Nat.le_refl _))
  rcases hz with rfl | ⟨hz0, N, hN, hU⟩
  · clear B sz D0
    go_wp2_with fail
    go_ret
    exact ⟨rfl, D.out⟩
  · have hz1 : ¬ z < 0 := by omega
    have hU := Lib.hid (hU.up B (Nat.le_refl _))
    have tn := fun W (hb : Below w1.heap.size w1 W) => toNs_any _ N W (hU.out.up hb (Nat.le_refl _))
    have sv := fun u W (h : Nds W u N) => sreachM_any u N x y W h
    have iv := fun u W (h : Nds W u N) (hb : Below w1.heap.size w1 W) => ireach_any u N x y W h (hT.out.up hb (Nat.le_refl _))
    have hSl : (reachR N (x, y)).length ≤ 12 := reachR_len N (x, y)
    generalize reachR N (x, y) = S at sv iv hSl
    obtain ⟨i0, i1, _, _⟩ := blk2 hI.out
    have E := Lib.hid (Below.refl w1.heap.size w1)
    clear B sz hU D0
    go_upto_region 5 with fail
    refine wp_region_held_drew (S := fun w' => w'.cell? ⟨w.heap.size, 0, none⟩ = some (.int .i64 x) ∧ w'.cell? ⟨w.heap.size, 1, none⟩ = some (.int .i64 y) ∧ Below w1.heap.size w1 w') (by kernel_rfl) ⟨i0, i1, Below.drew (Below.refl _ _)⟩ (fun hHeld => ?_)
    refine wpAnyH_take (i := 0) (oi := ⟨some 18, _, _, _, _, _⟩) (v := ?_) rfl (by kernel_rfl) (by kernel_rfl) (by kernel_rfl) (fun _ _ _ h => h) (Or.inl ⟨by rfl, ?_⟩) (by assumption) ?_
    rotate_left 1
    · intro w hSw; (try dsimp only at hSw); go_simp; try (with_reducible rfl)
    try simp only [Act.put, List.setIfInBounds_toArray, List.set_cons_zero, List.set_cons_succ]
    refine wpAnyH_take (i := 2) (oi := ⟨some 20, _, _, _, _, _⟩) (v := ?_) rfl (by kernel_rfl) (by kernel_rfl) (by kernel_rfl) (fun _ _ _ h => h) (Or.inl ⟨by rfl, ?_⟩) (by assumption) ?_
    rotate_left 1
    · intro w hSw; (try dsimp only at hSw); go_simp; try (with_reducible rfl)
    try simp only [Act.put, List.setIfInBounds_toArray, List.set_cons_zero, List.set_cons_succ]
    refine wpAnyH_ready (rs := [1]) (by kernel_rfl) (by simp) ?_
    refine AllReadyH.cons (o := ⟨some 19, _, _, _, _, _⟩) rfl (fun K hK => ?_) AllReadyH.nil
    go_simp
    with_reducible refine (tn _ (bstep E.out hHeld.2.2)).mono ?_
    rintro e wa ⟨u2, rfl, O2, hb⟩
    have O2 := Lib.hid O2
    go_wp2_with fail
    refine hK.out _ _ ?_ (fun hHeld2 => ?_)
    · exact ⟨cell_later hb hHeld.1, cell_later hb hHeld.2.1, hHeld.2.2.trans (hb.mono hHeld.2.2.size)⟩
    clear hK K hHeld hb
    have hHeld := hHeld2
    clear hHeld2
    try simp only [Act.put, List.setIfInBounds_toArray, List.set_cons_zero, List.set_cons_succ]
    refine wpAnyH_ready (rs := [3]) (by kernel_rfl) (by simp) ?_
    refine AllReadyH.cons (o := ⟨some 21, _, _, _, _, _⟩) rfl (fun K hK => ?_) AllReadyH.nil
    go_simp
    with_reducible refine (toId_any x y _).mono ?_
    rintro e wb ⟨rfl, hb⟩
    have O3 := Lib.hid (O2.out.up hb)
    clear O2
    go_wp2_with fail
    refine hK.out _ _ ?_ (fun hHeld2 => ?_)
    · exact ⟨cell_later hb hHeld.1, cell_later hb hHeld.2.1, hHeld.2.2.trans (hb.mono hHeld.2.2.size)⟩
    clear hK K hHeld hb
    have hHeld := hHeld2
    clear hHeld2
    try simp only [Act.put, List.setIfInBounds_toArray, List.set_cons_zero, List.set_cons_succ]
    refine wpAnyH_ready (rs := [4]) (by kernel_rfl) (by simp) ?_
    refine AllReadyH.cons (o := ⟨some 22, _, _, _, _, _⟩) rfl (fun K hK => ?_) AllReadyH.nil
    go_simp
    with_reducible refine (sv _ _ O3.out.read).mono ?_
    rintro e w3 ⟨g4, v4, hg4, rfl, O4, hb⟩
    have hw3 := hb.size
    clear O3
    go_wp2_with fail
    refine hK.out _ _ ?_ (fun hHeld2 => ?_)
    · exact ⟨cell_later hb hHeld.1, cell_later hb hHeld.2.1, hHeld.2.2.trans (hb.mono hHeld.2.2.size)⟩
    clear hK K hHeld hb
    have hHeld := hHeld2
    clear hHeld2
    try simp only [Act.put, List.setIfInBounds_toArray, List.set_cons_zero, List.set_cons_succ]
    refine wpAnyH_take (i := 5) (oi := ⟨some 6, _, _, _, _, _⟩) (v := ?_) rfl (by kernel_rfl) (by kernel_rfl) (by kernel_rfl) (fun _ _ _ h => h) (Or.inl ⟨by rfl, ?_⟩) (by assumption) ?_
    rotate_left 1
    · intro w hSw; (try dsimp only at hSw); go_simp; try (with_reducible rfl)
    try simp only [Act.put, List.setIfInBounds_toArray, List.set_cons_zero, List.set_cons_succ]
    refine wpAnyH_done (by kernel_rfl) ?_ _
    try simp only [Act.put, List.setIfInBounds_toArray, List.set_cons_zero, List.set_cons_succ]
    replace E := Lib.hid hHeld.2.2
    have O4 := Lib.hid O4
    have L4 := O4.out.lt
    clear hHeld i0 i1
    go_wp2_with fail
    refine (tn _ E.out).mono ?_
    rintro e w4 ⟨u6, rfl, O6, B⟩
    have hw34 := E.out.size
    have O6 := Lib.hid O6
    have M6 := Lib.hid O6.out.mk
    obtain ⟨gx, cx, Lx, rfl, hx1, hx2, hx3⟩ := M6.out
    have hx3 := Lib.hid hx3
    replace O4 := Lib.hid (O4.out.up B L4)
    replace E := Lib.hid (bstep E.out B)
    obtain ⟨E6, hE6⟩ : ∃ n, Hid (w4.heap.size = n) := ⟨_, Lib.hid rfl⟩
    rw [hE6.out] at hx3
    have hE61 : w1.heap.size ≤ E6 := by rw [← hE6.out]; exact E.out.size
    clear B M6
    have hI4 := (E.out.block _ hil).trans hI.out
    obtain ⟨c0, c1, _, _⟩ := blk2 hI4
    have hcl := lt_of_heap hI4
    clear hI4
    go_wp2_with fail
    refine (toId_any x y _).mono ?_
    rintro e w4b ⟨rfl, B⟩
    replace O4 := Lib.hid (O4.out.up B O4.out.lt)
    replace O6 := Lib.hid (O6.out.up B)
    replace hx3 := Lib.hid (hx3.out.up B)
    replace E := Lib.hid (bstep E.out B)
    have hw4b := B.size
    clear B c0 c1 hcl
    go_wp2_with fail
    refine (iv _ _ O6.out.read E.out).mono ?_
    rintro e w5 ⟨g8, v8, hg8, rfl, O8, B⟩
    have hg8 : w4.heap.size ≤ g8 := by omega
    rw [hE6.out] at hg8
    have O8 := Lib.hid O8
    have L8 := O8.out.lt
    have n48 : g4 ≠ g8 := by have := O4.out.lt; have := hE6.out; omega
    replace O4 := Lib.hid (O4.out.up B O4.out.lt)
    replace O6 := Lib.hid (O6.out.up B)
    replace hx3 := Lib.hid (hx3.out.up B)
    replace E := Lib.hid (bstep E.out B)
    clear B
    go_wp2_with fail
    refine (eqP_any _ _ S _ O8.out.read O4.out.read).mono ?_
    rintro e w6 ⟨rfl, B⟩
    replace O4 := Lib.hid (O4.out.up B O4.out.lt)
    replace O6 := Lib.hid (O6.out.up B)
    replace O8 := Lib.hid (O8.out.up B O8.out.lt)
    replace hx3 := Lib.hid (hx3.out.up B)
    replace E := Lib.hid (bstep E.out B)
    clear B
    go_wp2_with fail
    refine (tn _ E.out).mono ?_
    rintro e w7 ⟨u7, rfl, O7, B⟩
    replace O4 := Lib.hid (O4.out.up B O4.out.lt)
    replace O6 := Lib.hid (O6.out.up B)
    replace O8 := Lib.hid (O8.out.up B O8.out.lt)
    replace hx3 := Lib.hid (hx3.out.up B)
    replace E := Lib.hid (bstep E.out B)
    have O7 := Lib.hid O7
    clear B
    go_wp2_with fail
    refine (eqNs_any _ _ N _ O6.out.read O7.out.read).mono ?_
    rintro e w8 ⟨rfl, B⟩
    replace O4 := Lib.hid (O4.out.up B O4.out.lt)
    replace O8 := Lib.hid (O8.out.up B O8.out.lt)
    replace hx3 := Lib.hid (hx3.out.up B)
    replace E := Lib.hid (bstep E.out B)
    have mk := markNs_any _ _ gx N.length cx Lx _ hx1 hx3.out
    clear B O6 O7
    go_wp2_with fail
    refine mk.mono ?_
    rintro e w9 ⟨zk, rfl, hzk, X⟩
    have hzk2 : ¬ zk < 0 := by omega
    replace O4 := Lib.hid (O4.out.apart X (by omega))
    replace O8 := Lib.hid (O8.out.apart X (by omega))
    replace E := Lib.hid (E.out.trans (X.to (B := w1.heap.size) E.out.size (fun b hb => by have := hg4; omega)))
    clear X mk hx3
    go_wp2_with fail
    refine (eqP_any _ _ S _ O8.out.read O4.out.read).mono ?_
    rintro e w10 ⟨rfl, B⟩
    replace O4 := Lib.hid (O4.out.up B O4.out.lt)
    replace O8 := Lib.hid (O8.out.up B O8.out.lt)
    replace E := Lib.hid (bstep E.out B)
    clear B
    obtain ⟨ns, hns⟩ : ∃ n, Hid (S.length = n) := ⟨_, Lib.hid rfl⟩
    have hl1 := hSl
    rw [hns.out] at hl1
    go_wp2_with fail
    refine (markP_any g8 _ S (1) _ O8.out (by omega) (by omega)).mono ?_
    rintro e w11 ⟨rfl, M11, hM, hMk, OM, hb⟩
    replace O4 := Lib.hid (O4.out.kept hb n48)
    replace E := Lib.hid (E.out.trans ((hb.mono (B' := w1.heap.size) E.out.size).below (by omega)))
    replace O8 := Lib.hid OM
    have hMk := Lib.hid hMk
    have hM := Lib.hid hM
    clear hb OM
    rw [hns.out]
    go_wp2_with fail
    refine (heldP_any _ 1 M11 _ hMk.out O8.out.read (by omega) (by omega)).mono ?_
    rw [hM.out, hns.out]
    rintro e w12 ⟨rfl, B⟩
    replace O4 := Lib.hid (O4.out.up B O4.out.lt)
    replace O8 := Lib.hid (O8.out.up B O8.out.lt)
    replace E := Lib.hid (bstep E.out B)
    clear B
    have hI4 := (E.out.block _ hil).trans hI.out
    obtain ⟨c0, c1, _, _⟩ := blk2 hI4
    have hcl := lt_of_heap hI4
    clear hI4
    go_upto_region 24 with fail
    refine wp_region_held_drew (S := fun w' => w'.cell? ⟨w.heap.size, 0, none⟩ = some (.int .i64 x) ∧ w'.cell? ⟨w.heap.size, 1, none⟩ = some (.int .i64 y) ∧ Below w12.heap.size w12 w') (by kernel_rfl) ⟨c0, c1, Below.drew (Below.refl _ _)⟩ (fun hHeld => ?_)
    refine wpAnyH_take (i := 0) (oi := ⟨some 60, _, _, _, _, _⟩) (v := ?_) rfl (by kernel_rfl) (by kernel_rfl) (by kernel_rfl) (fun _ _ _ h => h) (Or.inl ⟨by rfl, ?_⟩) (by assumption) ?_
    rotate_left 1
    · intro w hSw; (try dsimp only at hSw); go_simp; try (with_reducible rfl)
    try simp only [Act.put, List.setIfInBounds_toArray, List.set_cons_zero, List.set_cons_succ]
    refine wpAnyH_take (i := 2) (oi := ⟨some 62, _, _, _, _, _⟩) (v := ?_) rfl (by kernel_rfl) (by kernel_rfl) (by kernel_rfl) (fun _ _ _ h => h) (Or.inl ⟨by rfl, ?_⟩) (by assumption) ?_
    rotate_left 1
    · intro w hSw; (try dsimp only at hSw); go_simp; try (with_reducible rfl)
    try simp only [Act.put, List.setIfInBounds_toArray, List.set_cons_zero, List.set_cons_succ]
    refine wpAnyH_ready (rs := [1]) (by kernel_rfl) (by simp) ?_
    refine AllReadyH.cons (o := ⟨some 61, _, _, _, _, _⟩) rfl (fun K hK => ?_) AllReadyH.nil
    go_simp
    with_reducible refine (tn _ (bstep E.out hHeld.2.2)).mono ?_
    rintro e wa ⟨u2, rfl, O2, hb⟩
    have O2 := Lib.hid O2
    go_wp2_with fail
    refine hK.out _ _ ?_ (fun hHeld2 => ?_)
    · exact ⟨cell_later hb hHeld.1, cell_later hb hHeld.2.1, hHeld.2.2.trans (hb.mono hHeld.2.2.size)⟩
    clear hK K hHeld hb
    have hHeld := hHeld2
    clear hHeld2
    try simp only [Act.put, List.setIfInBounds_toArray, List.set_cons_zero, List.set_cons_succ]
    refine wpAnyH_ready (rs := [3]) (by kernel_rfl) (by simp) ?_
    refine AllReadyH.cons (o := ⟨some 63, _, _, _, _, _⟩) rfl (fun K hK => ?_) AllReadyH.nil
    go_simp
    with_reducible refine (toId_any x y _).mono ?_
    rintro e wb ⟨rfl, hb⟩
    have O3 := Lib.hid (O2.out.up hb)
    clear O2
    go_wp2_with fail
    refine hK.out _ _ ?_ (fun hHeld2 => ?_)
    · exact ⟨cell_later hb hHeld.1, cell_later hb hHeld.2.1, hHeld.2.2.trans (hb.mono hHeld.2.2.size)⟩
    clear hK K hHeld hb
    have hHeld := hHeld2
    clear hHeld2
    try simp only [Act.put, List.setIfInBounds_toArray, List.set_cons_zero, List.set_cons_succ]
    refine wpAnyH_ready (rs := [4]) (by kernel_rfl) (by simp) ?_
    refine AllReadyH.cons (o := ⟨some 64, _, _, _, _, _⟩) rfl (fun K hK => ?_) AllReadyH.nil
    go_simp
    with_reducible refine (iv _ _ O3.out.read (bstep E.out hHeld.2.2)).mono ?_
    rintro e w14 ⟨g9, v9, hg9, rfl, O9, hb⟩
    clear O3
    go_wp2_with fail
    refine hK.out _ _ ?_ (fun hHeld2 => ?_)
    · exact ⟨cell_later hb hHeld.1, cell_later hb hHeld.2.1, hHeld.2.2.trans (hb.mono hHeld.2.2.size)⟩
    clear hK K hHeld hb
    have hHeld := hHeld2
    clear hHeld2
    try simp only [Act.put, List.setIfInBounds_toArray, List.set_cons_zero, List.set_cons_succ]
    refine wpAnyH_take (i := 5) (oi := ⟨some 12, _, _, _, _, _⟩) (v := ?_) rfl (by kernel_rfl) (by kernel_rfl) (by kernel_rfl) (fun _ _ _ h => h) (Or.inl ⟨by rfl, ?_⟩) (by assumption) ?_
    rotate_left 1
    · intro w hSw; (try dsimp only at hSw); go_simp; try (with_reducible rfl)
    try simp only [Act.put, List.setIfInBounds_toArray, List.set_cons_zero, List.set_cons_succ]
    refine wpAnyH_done (by kernel_rfl) ?_ _
    try simp only [Act.put, List.setIfInBounds_toArray, List.set_cons_zero, List.set_cons_succ]
    have B := hHeld.2.2
    clear hHeld c0 c1 hcl
    have O9 := Lib.hid O9
    replace O4 := Lib.hid (O4.out.up B O4.out.lt)
    replace O8 := Lib.hid (O8.out.up B O8.out.lt)
    replace E := Lib.hid (bstep E.out B)
    clear B
    go_wp2_with fail
    refine (eqP_any _ _ S _ O9.out.read O4.out.read).mono ?_
    rintro e w15 ⟨rfl, B⟩
    replace O8 := Lib.hid (O8.out.up B O8.out.lt)
    replace E := Lib.hid (bstep E.out B)
    clear B O9 O4
    go_wp2_with fail
    refine (heldP_any _ 1 M11 _ hMk.out O8.out.read (by omega) (by omega)).mono ?_
    rw [hM.out, hns.out]
    rintro e w16 ⟨rfl, B⟩
    replace E := Lib.hid (bstep E.out B)
    have D2 := Lib.hid (bstep D.out E.out)
    clear B
    go_wp2_with fail
    go_ret
    exact ⟨rfl, D2.out⟩

set_option maxRecDepth 100000 in
set_option maxHeartbeats 8000000 in
theorem exNodesGroup_any (a : Option Addr) (len cap : Nat) (x y : Int) (w : World) (h : LNs w a len cap) (hT : TabIn w) :
    Calls Tryd.prog 13 #[.slice a len cap, .agg #[.int .i64 x, .int .i64 y]] w fun e w' => e = .returned (.bool true) ∧ Below w.heap.size w w' := by
  have D0 := (Below.refl w.heap.size w).alloc (Nat.le_refl _) (.cells #[.int .i64 x, .int .i64 y] 43)
  have sz := szNs_any a len cap _ (lns_up h D0 (Nat.le_refl _))
  have hI := Lib.hid (heap_alloc_new w (.cells #[.int .i64 x, .int .i64 y] 43))
  have D0 := Lib.hid D0
  clear h
  go_enter Tryd.func13, Tryd.ntmps13
  go_wp2_with fail
  refine sz.mono ?_
  rintro e w1 ⟨⟨z, rfl, hz⟩, B⟩
  have D := Lib.hid (bstep D0.out B)
  have hI := Lib.hid (bblk B (by simp) hI.out)
  have hil := lt_of_heap hI.out
  have hT := Lib.hid (hT.up D.out (Nat.le_refl _))
  rcases hz with rfl | ⟨hz0, N, hN, hU⟩
  · clear B sz D0
    go_wp2_with fail
    go_ret
    exact ⟨rfl, D.out⟩
  · have hz1 : ¬ z < 0 := by omega
    have hU := Lib.hid (hU.up B (Nat.le_refl _))
    have tn := fun W (hb : Below w1.heap.size w1 W) => toNs_any _ N W (hU.out.up hb (Nat.le_refl _))
    have sv := fun u W (h : Nds W u N) => sgroupM_any u N x y W h
    have iv := fun u W (h : Nds W u N) (hb : Below w1.heap.size w1 W) => igroup_any u N x y W h (hT.out.up hb (Nat.le_refl _))
    have hSl : (groupR N (x, y)).length ≤ 12 := groupR_len N (x, y)
    generalize groupR N (x, y) = S at sv iv hSl
    obtain ⟨i0, i1, _, _⟩ := blk2 hI.out
    have E := Lib.hid (Below.refl w1.heap.size w1)
    clear B sz hU D0
    go_upto_region 5 with fail
    refine wp_region_held_drew (S := fun w' => w'.cell? ⟨w.heap.size, 0, none⟩ = some (.int .i64 x) ∧ w'.cell? ⟨w.heap.size, 1, none⟩ = some (.int .i64 y) ∧ Below w1.heap.size w1 w') (by kernel_rfl) ⟨i0, i1, Below.drew (Below.refl _ _)⟩ (fun hHeld => ?_)
    refine wpAnyH_take (i := 0) (oi := ⟨some 18, _, _, _, _, _⟩) (v := ?_) rfl (by kernel_rfl) (by kernel_rfl) (by kernel_rfl) (fun _ _ _ h => h) (Or.inl ⟨by rfl, ?_⟩) (by assumption) ?_
    rotate_left 1
    · intro w hSw; (try dsimp only at hSw); go_simp; try (with_reducible rfl)
    try simp only [Act.put, List.setIfInBounds_toArray, List.set_cons_zero, List.set_cons_succ]
    refine wpAnyH_take (i := 2) (oi := ⟨some 20, _, _, _, _, _⟩) (v := ?_) rfl (by kernel_rfl) (by kernel_rfl) (by kernel_rfl) (fun _ _ _ h => h) (Or.inl ⟨by rfl, ?_⟩) (by assumption) ?_
    rotate_left 1
    · intro w hSw; (try dsimp only at hSw); go_simp; try (with_reducible rfl)
    try simp only [Act.put, List.setIfInBounds_toArray, List.set_cons_zero, List.set_cons_succ]
    refine wpAnyH_ready (rs := [1]) (by kernel_rfl) (by simp) ?_
    refine AllReadyH.cons (o := ⟨some 19, _, _, _, _, _⟩) rfl (fun K hK => ?_) AllReadyH.nil
    go_simp
    with_reducible refine (tn _ (bstep E.out hHeld.2.2)).mono ?_
    rintro e wa ⟨u2, rfl, O2, hb⟩
    have O2 := Lib.hid O2
    go_wp2_with fail
    refine hK.out _ _ ?_ (fun hHeld2 => ?_)
    · exact ⟨cell_later hb hHeld.1, cell_later hb hHeld.2.1, hHeld.2.2.trans (hb.mono hHeld.2.2.size)⟩
    clear hK K hHeld hb
    have hHeld := hHeld2
    clear hHeld2
    try simp only [Act.put, List.setIfInBounds_toArray, List.set_cons_zero, List.set_cons_succ]
    refine wpAnyH_ready (rs := [3]) (by kernel_rfl) (by simp) ?_
    refine AllReadyH.cons (o := ⟨some 21, _, _, _, _, _⟩) rfl (fun K hK => ?_) AllReadyH.nil
    go_simp
    with_reducible refine (toId_any x y _).mono ?_
    rintro e wb ⟨rfl, hb⟩
    have O3 := Lib.hid (O2.out.up hb)
    clear O2
    go_wp2_with fail
    refine hK.out _ _ ?_ (fun hHeld2 => ?_)
    · exact ⟨cell_later hb hHeld.1, cell_later hb hHeld.2.1, hHeld.2.2.trans (hb.mono hHeld.2.2.size)⟩
    clear hK K hHeld hb
    have hHeld := hHeld2
    clear hHeld2
    try simp only [Act.put, List.setIfInBounds_toArray, List.set_cons_zero, List.set_cons_succ]
    refine wpAnyH_ready (rs := [4]) (by kernel_rfl) (by simp) ?_
    refine AllReadyH.cons (o := ⟨some 22, _, _, _, _, _⟩) rfl (fun K hK => ?_) AllReadyH.nil
    go_simp
    with_reducible refine (sv _ _ O3.out.read).mono ?_
    rintro e w3 ⟨g4, v4, hg4, rfl, O4, hb⟩
    have hw3 := hb.size
    clear O3
    go_wp2_with fail
    refine hK.out _ _ ?_ (fun hHeld2 => ?_)
    · exact ⟨cell_later hb hHeld.1, cell_later hb hHeld.2.1, hHeld.2.2.trans (hb.mono hHeld.2.2.size)⟩
    clear hK K hHeld hb
    have hHeld := hHeld2
    clear hHeld2
    try simp only [Act.put, List.setIfInBounds_toArray, List.set_cons_zero, List.set_cons_succ]
    refine wpAnyH_take (i := 5) (oi := ⟨some 6, _, _, _, _, _⟩) (v := ?_) rfl (by kernel_rfl) (by kernel_rfl) (by kernel_rfl) (fun _ _ _ h => h) (Or.inl ⟨by rfl, ?_⟩) (by assumption) ?_
    rotate_left 1
    · intro w hSw; (try dsimp only at hSw); go_simp; try (with_reducible rfl)
    try simp only [Act.put, List.setIfInBounds_toArray, List.set_cons_zero, List.set_cons_succ]
    refine wpAnyH_done (by kernel_rfl) ?_ _
    try simp only [Act.put, List.setIfInBounds_toArray, List.set_cons_zero, List.set_cons_succ]
    replace E := Lib.hid hHeld.2.2
    have O4 := Lib.hid O4
    have L4 := O4.out.lt
    clear hHeld i0 i1
    go_wp2_with fail
    refine (tn _ E.out).mono ?_
    rintro e w4 ⟨u6, rfl, O6, B⟩
    have hw34 := E.out.size
    have O6 := Lib.hid O6
    have M6 := Lib.hid O6.out.mk
    obtain ⟨gx, cx, Lx, rfl, hx1, hx2, hx3⟩ := M6.out
    have hx3 := Lib.hid hx3
    replace O4 := Lib.hid (O4.out.up B L4)
    replace E := Lib.hid (bstep E.out B)
    obtain ⟨E6, hE6⟩ : ∃ n, Hid (w4.heap.size = n) := ⟨_, Lib.hid rfl⟩
    rw [hE6.out] at hx3
    have hE61 : w1.heap.size ≤ E6 := by rw [← hE6.out]; exact E.out.size
    clear B M6
    have hI4 := (E.out.block _ hil).trans hI.out
    obtain ⟨c0, c1, _, _⟩ := blk2 hI4
    have hcl := lt_of_heap hI4
    clear hI4
    go_wp2_with fail
    refine (toId_any x y _).mono ?_
    rintro e w4b ⟨rfl, B⟩
    replace O4 := Lib.hid (O4.out.up B O4.out.lt)
    replace O6 := Lib.hid (O6.out.up B)
    replace hx3 := Lib.hid (hx3.out.up B)
    replace E := Lib.hid (bstep E.out B)
    have hw4b := B.size
    clear B c0 c1 hcl
    go_wp2_with fail
    refine (iv _ _ O6.out.read E.out).mono ?_
    rintro e w5 ⟨g8, v8, hg8, rfl, O8, B⟩
    have hg8 : w4.heap.size ≤ g8 := by omega
    rw [hE6.out] at hg8
    have O8 := Lib.hid O8
    have L8 := O8.out.lt
    have n48 : g4 ≠ g8 := by have := O4.out.lt; have := hE6.out; omega
    replace O4 := Lib.hid (O4.out.up B O4.out.lt)
    replace O6 := Lib.hid (O6.out.up B)
    replace hx3 := Lib.hid (hx3.out.up B)
    replace E := Lib.hid (bstep E.out B)
    clear B
    go_wp2_with fail
    refine (eqP_any _ _ S _ O8.out.read O4.out.read).mono ?_
    rintro e w6 ⟨rfl, B⟩
    replace O4 := Lib.hid (O4.out.up B O4.out.lt)
    replace O6 := Lib.hid (O6.out.up B)
    replace O8 := Lib.hid (O8.out.up B O8.out.lt)
    replace hx3 := Lib.hid (hx3.out.up B)
    replace E := Lib.hid (bstep E.out B)
    clear B
    go_wp2_with fail
    refine (tn _ E.out).mono ?_
    rintro e w7 ⟨u7, rfl, O7, B⟩
    replace O4 := Lib.hid (O4.out.up B O4.out.lt)
    replace O6 := Lib.hid (O6.out.up B)
    replace O8 := Lib.hid (O8.out.up B O8.out.lt)
    replace hx3 := Lib.hid (hx3.out.up B)
    replace E := Lib.hid (bstep E.out B)
    have O7 := Lib.hid O7
    clear B
    go_wp2_with fail
    refine (eqNs_any _ _ N _ O6.out.read O7.out.read).mono ?_
    rintro e w8 ⟨rfl, B⟩
    replace O4 := Lib.hid (O4.out.up B O4.out.lt)
    replace O8 := Lib.hid (O8.out.up B O8.out.lt)
    replace hx3 := Lib.hid (hx3.out.up B)
    replace E := Lib.hid (bstep E.out B)
    have mk := markNs_any _ _ gx N.length cx Lx _ hx1 hx3.out
    clear B O6 O7
    go_wp2_with fail
    refine mk.mono ?_
    rintro e w9 ⟨zk, rfl, hzk, X⟩
    have hzk2 : ¬ zk < 0 := by omega
    replace O4 := Lib.hid (O4.out.apart X (by omega))
    replace O8 := Lib.hid (O8.out.apart X (by omega))
    replace E := Lib.hid (E.out.trans (X.to (B := w1.heap.size) E.out.size (fun b hb => by have := hg4; omega)))
    clear X mk hx3
    go_wp2_with fail
    refine (eqP_any _ _ S _ O8.out.read O4.out.read).mono ?_
    rintro e w10 ⟨rfl, B⟩
    replace O4 := Lib.hid (O4.out.up B O4.out.lt)
    replace O8 := Lib.hid (O8.out.up B O8.out.lt)
    replace E := Lib.hid (bstep E.out B)
    clear B
    obtain ⟨ns, hns⟩ : ∃ n, Hid (S.length = n) := ⟨_, Lib.hid rfl⟩
    have hl1 := hSl
    rw [hns.out] at hl1
    go_wp2_with fail
    refine (markP_any g8 _ S (1) _ O8.out (by omega) (by omega)).mono ?_
    rintro e w11 ⟨rfl, M11, hM, hMk, OM, hb⟩
    replace O4 := Lib.hid (O4.out.kept hb n48)
    replace E := Lib.hid (E.out.trans ((hb.mono (B' := w1.heap.size) E.out.size).below (by omega)))
    replace O8 := Lib.hid OM
    have hMk := Lib.hid hMk
    have hM := Lib.hid hM
    clear hb OM
    rw [hns.out]
    go_wp2_with fail
    refine (heldP_any _ 1 M11 _ hMk.out O8.out.read (by omega) (by omega)).mono ?_
    rw [hM.out, hns.out]
    rintro e w12 ⟨rfl, B⟩
    replace O4 := Lib.hid (O4.out.up B O4.out.lt)
    replace O8 := Lib.hid (O8.out.up B O8.out.lt)
    replace E := Lib.hid (bstep E.out B)
    clear B
    have hI4 := (E.out.block _ hil).trans hI.out
    obtain ⟨c0, c1, _, _⟩ := blk2 hI4
    have hcl := lt_of_heap hI4
    clear hI4
    go_upto_region 24 with fail
    refine wp_region_held_drew (S := fun w' => w'.cell? ⟨w.heap.size, 0, none⟩ = some (.int .i64 x) ∧ w'.cell? ⟨w.heap.size, 1, none⟩ = some (.int .i64 y) ∧ Below w12.heap.size w12 w') (by kernel_rfl) ⟨c0, c1, Below.drew (Below.refl _ _)⟩ (fun hHeld => ?_)
    refine wpAnyH_take (i := 0) (oi := ⟨some 60, _, _, _, _, _⟩) (v := ?_) rfl (by kernel_rfl) (by kernel_rfl) (by kernel_rfl) (fun _ _ _ h => h) (Or.inl ⟨by rfl, ?_⟩) (by assumption) ?_
    rotate_left 1
    · intro w hSw; (try dsimp only at hSw); go_simp; try (with_reducible rfl)
    try simp only [Act.put, List.setIfInBounds_toArray, List.set_cons_zero, List.set_cons_succ]
    refine wpAnyH_take (i := 2) (oi := ⟨some 62, _, _, _, _, _⟩) (v := ?_) rfl (by kernel_rfl) (by kernel_rfl) (by kernel_rfl) (fun _ _ _ h => h) (Or.inl ⟨by rfl, ?_⟩) (by assumption) ?_
    rotate_left 1
    · intro w hSw; (try dsimp only at hSw); go_simp; try (with_reducible rfl)
    try simp only [Act.put, List.setIfInBounds_toArray, List.set_cons_zero, List.set_cons_succ]
    refine wpAnyH_ready (rs := [1]) (by kernel_rfl) (by simp) ?_
    refine AllReadyH.cons (o := ⟨some 61, _, _, _, _, _⟩) rfl (fun K hK => ?_) AllReadyH.nil
    go_simp
    with_reducible refine (tn _ (bstep E.out hHeld.2.2)).mono ?_
    rintro e wa ⟨u2, rfl, O2, hb⟩
    have O2 := Lib.hid O2
    go_wp2_with fail
    refine hK.out _ _ ?_ (fun hHeld2 => ?_)
    · exact ⟨cell_later hb hHeld.1, cell_later hb hHeld.2.1, hHeld.2.2.trans (hb.mono hHeld.2.2.size)⟩
    clear hK K hHeld hb
    have hHeld := hHeld2
    clear hHeld2
    try simp only [Act.put, List.setIfInBounds_toArray, List.set_cons_zero, List.set_cons_succ]
    refine wpAnyH_ready (rs := [3]) (by kernel_rfl) (by simp) ?_
    refine AllReadyH.cons (o := ⟨some 63, _, _, _, _, _⟩) rfl (fun K hK => ?_) AllReadyH.nil
    go_simp
    with_reducible refine (toId_any x y _).mono ?_
    rintro e wb ⟨rfl, hb⟩
    have O3 := Lib.hid (O2.out.up hb)
    clear O2
    go_wp2_with fail
    refine hK.out _ _ ?_ (fun hHeld2 => ?_)
    · exact ⟨cell_later hb hHeld.1, cell_later hb hHeld.2.1, hHeld.2.2.trans (hb.mono hHeld.2.2.size)⟩
    clear hK K hHeld hb
    have hHeld := hHeld2
    clear hHeld2
    try simp only [Act.put, List.setIfInBounds_toArray, List.set_cons_zero, List.set_cons_succ]
    refine wpAnyH_ready (rs := [4]) (by kernel_rfl) (by simp) ?_
    refine AllReadyH.cons (o := ⟨some 64, _, _, _, _, _⟩) rfl (fun K hK => ?_) AllReadyH.nil
    go_simp
    with_reducible refine (iv _ _ O3.out.read (bstep E.out hHeld.2.2)).mono ?_
    rintro e w14 ⟨g9, v9, hg9, rfl, O9, hb⟩
    clear O3
    go_wp2_with fail
    refine hK.out _ _ ?_ (fun hHeld2 => ?_)
    · exact ⟨cell_later hb hHeld.1, cell_later hb hHeld.2.1, hHeld.2.2.trans (hb.mono hHeld.2.2.size)⟩
    clear hK K hHeld hb
    have hHeld := hHeld2
    clear hHeld2
    try simp only [Act.put, List.setIfInBounds_toArray, List.set_cons_zero, List.set_cons_succ]
    refine wpAnyH_take (i := 5) (oi := ⟨some 12, _, _, _, _, _⟩) (v := ?_) rfl (by kernel_rfl) (by kernel_rfl) (by kernel_rfl) (fun _ _ _ h => h) (Or.inl ⟨by rfl, ?_⟩) (by assumption) ?_
    rotate_left 1
    · intro w hSw; (try dsimp only at hSw); go_simp; try (with_reducible rfl)
    try simp only [Act.put, List.setIfInBounds_toArray, List.set_cons_zero, List.set_cons_succ]
    refine wpAnyH_done (by kernel_rfl) ?_ _
    try simp only [Act.put, List.setIfInBounds_toArray, List.set_cons_zero, List.set_cons_succ]
    have B := hHeld.2.2
    clear hHeld c0 c1 hcl
    have O9 := Lib.hid O9
    replace O4 := Lib.hid (O4.out.up B O4.out.lt)
    replace O8 := Lib.hid (O8.out.up B O8.out.lt)
    replace E := Lib.hid (bstep E.out B)
    clear B
    go_wp2_with fail
    refine (eqP_any _ _ S _ O9.out.read O4.out.read).mono ?_
    rintro e w15 ⟨rfl, B⟩
    replace O8 := Lib.hid (O8.out.up B O8.out.lt)
    replace E := Lib.hid (bstep E.out B)
    clear B O9 O4
    go_wp2_with fail
    refine (heldP_any _ 1 M11 _ hMk.out O8.out.read (by omega) (by omega)).mono ?_
    rw [hM.out, hns.out]
    rintro e w16 ⟨rfl, B⟩
    replace E := Lib.hid (bstep E.out B)
    have D2 := Lib.hid (bstep D.out E.out)
    clear B
    go_wp2_with fail
    go_ret
    exact ⟨rfl, D2.out⟩

end Go.Proofs.YtbbnchodchgioaaDoor

/- What the frames of laws over slices of nodes use. -/
namespace Go.Proofs.YtbbnchodchgioaaDoor
open Go.ChangeShapes Go.WideShapes Go.ChangeAt Go.RowKit Go.Joins Go.Deep
set_option linter.unusedVariables false

theorem lns_of_fn {w : World} {x : Addr} {len cap : Nat} (hl : len ≤ cap) (hm : cap ≤ maxLen)
    (h : ∀ i, i < len → ∃ (p r s : Int) (ua : Option Addr) (un uc : Nat), w.cell? (x.add (i * 4)) = some (.int .i64 p) ∧ w.cell? (x.add (i * 4 + 1)) = some (.int .i64 r) ∧ w.cell? (x.add (i * 4 + 2)) = some (.int .i64 s) ∧ w.cell? (x.add (i * 4 + 3)) = some (.slice ua un uc) ∧ un ≤ maxLen ∧ (1048576 < un ∨ ∃ C, Ids w (.slice ua un uc) C)) :
    LNs w (some x) len cap := by
  refine ⟨Nat.le_trans hl hm, hl, ?_⟩
  by_cases h0 : len = 0
  · exact .inl h0
  · obtain ⟨b, off, spot⟩ := x
    obtain ⟨_, _, _, _, _, _, hc, _⟩ := h 0 (by omega)
    have hspot : spot = none := by simpa [Addr.add] using World.cell?_spot hc
    subst hspot
    have ea : ∀ j, (⟨b, off, none⟩ : Addr).add j = ⟨b, off + j, none⟩ := fun j => by unfold Addr.add; split <;> simp_all
    refine .inr ⟨b, off, rfl, ?_, fun i hi => ?_⟩
    · have := World.block_lt_of_cell? w _ hc
      simpa [Addr.add] using this
    · have h1 := h i hi
      rw [ea, ea, ea, ea] at h1
      exact h1

set_option maxRecDepth 100000 in
theorem id_of_trod {H : Type} {enc : TypeId × Value → H} {w : World} {base : Nat} {spare : Nat → Bool} {held : Bool} {n : Nat} {v0 v1 : Value} {y : DataW H × List MemPlace} (h : DataW.trod enc Tryd.prog w base spare held n 43 [v0, v1] = some y) : ∃ p r, v0 = .int .i64 p ∧ v1 = .int .i64 r := by
  obtain ⟨xs, k, hk, hxy, _, hxl, hf⟩ := DataW.trod_struct Tryd.underlying43 h
  match xs, hxl with
  | [y0, y1], _ =>
    have g0 := hf 0 _ rfl
    have g1 := hf 1 _ rfl
    have ci : Tryd.prog.cellsOf 3 = 1 := by kernel_rfl
    simp [ci] at g0 g1
    obtain ⟨z0, rfl⟩ := int_of_trodP g0
    obtain ⟨z1, rfl⟩ := int_of_trodP g1
    exact ⟨z0, z1, rfl, rfl⟩

theorem idsv_of_trod {H : Type} {enc : TypeId × Value → H} {w : World} {fuel : Nat} {v : Value} {x : DataW H × List MemPlace} (h : DataW.trod enc Tryd.prog w 0 (fun _ => true) true fuel 77 [v] = some x) : ∃ ua un uc, v = .slice ua un uc ∧ IdsIn w ua un uc := by
  rcases open_slice Tryd.underlying77 h with ⟨hcs, _⟩ | ⟨a', len', cap', m, n, D, Pl, hcs, _⟩
  · simp at hcs
    subst hcs
    exact ⟨_, _, _, rfl, ids_of_trod h⟩
  · simp at hcs
    subst hcs
    exact ⟨_, _, _, rfl, ids_of_trod h⟩

set_option maxRecDepth 100000 in
theorem lns_of_trod {H : Type} {enc : TypeId × Value → H} {w : World} {fuel : Nat} {a : Option Addr} {len cap : Nat} {x : DataW H × List MemPlace} (h : DataW.trod enc Tryd.prog w 0 (fun _ => true) true fuel 42 [.slice a len cap] = some x) : LNs w a len cap := by
  rcases open_slice Tryd.underlying42 h with ⟨hcs, _⟩ | ⟨a', len', cap', m, n, D, Pl, hcs, _, hl, hm, hmm, _, hx⟩
  · simp at hcs
    obtain ⟨rfl, rfl, rfl⟩ := hcs
    exact ⟨Nat.zero_le _, Nat.le_refl _, .inl rfl⟩
  · simp at hcs
    obtain ⟨rfl, rfl, rfl⟩ := hcs
    simp at hmm
    subst hmm
    refine lns_of_fn hl hm fun i hi => ?_
    obtain ⟨cs', h1, h2⟩ := hx i (by omega)
    have cn : Tryd.prog.cellsOf 79 = 4 := by kernel_rfl
    rw [cn] at h1
    obtain ⟨_, hlen, hcell⟩ := World.cells?_some h1
    obtain ⟨xs, k, hk, hxy, _, hxl, hf⟩ := DataW.trod_struct Tryd.underlying79 h2
    match xs, hxl, cs', hlen with
    | [y0, y1, y2], _, [v0, v1, v2, v3], _ =>
      have g0 := hf 0 _ rfl
      have g1 := hf 1 _ rfl
      have g2 := hf 2 _ rfl
      have ci : Tryd.prog.cellsOf 3 = 1 := by kernel_rfl
      have cs : Tryd.prog.cellsOf 77 = 1 := by kernel_rfl
      simp [ci, cs, cells_lawsId] at g0 g1 g2
      obtain ⟨p, r, rfl, rfl⟩ := id_of_trod g0
      obtain ⟨s, rfl⟩ := int_of_trodP g1
      obtain ⟨ua, un, uc, rfl, hu1, hu2⟩ := idsv_of_trod g2
      have e0 := hcell 0 (by omega)
      have e1 := hcell 1 (by omega)
      have e2 := hcell 2 (by omega)
      have e3 := hcell 3 (by omega)
      rw [add_add] at e0 e1 e2 e3
      exact ⟨p, r, s, ua, un, uc, by simpa using e0, by simpa using e1, by simpa using e2, by simpa using e3, hu1, hu2⟩
end Go.Proofs.YtbbnchodchgioaaDoor
