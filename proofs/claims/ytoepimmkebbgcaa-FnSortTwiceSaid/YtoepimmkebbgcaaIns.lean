/- slices.Insert at ids, walked through: one id, at the end, in between where there is room, in between where there is none. -/
import Derived.Test.YtoepimmkebbgcaaInsm
import Derived.Shelf.RegionOpenPlain
namespace Go.Proofs.Ytoepimmkebbgcaa
open Go.RowKit
set_option linter.unusedVariables false

/-- What Insert leaves. -/
def InsPost (B : Nat) (O' : List Pid) (w : World) (e : Ending) (w' : World) : Prop := ∃ v', e = .returned v' ∧ Row w' B v' O' ∧ Below B w w'

theorem two_at {w : World} {b : Nat} {x y : Value} {t : TypeId} (h : w.heap[b]? = some (.cells #[x, y] t (0, 0))) : ∀ j u, [x, y][j]? = some u → w.cell? ((⟨b, 0, none⟩ : Addr).add j) = some u := by
  obtain ⟨c0, c1, _, _⟩ := blk2 h
  intro j u hj
  match j, hj with
  | 0, hj => simp at hj; subst hj; simpa [Addr.add] using c0
  | 1, hj => simp at hj; subst hj; simpa [Addr.add] using c1
  | j + 2, hj => simp at hj

set_option maxHeartbeats 4000000 in
theorem ins_end (B vb : Nat) (v : Value) (O : List Pid) (x y : Int) (w : World) (hR : Row w B v O) (hB : B ≤ w.heap.size) (hl : O.length ≤ 1900000) (hvb : w.heap[vb]? = some (.cells #[.int .i64 x, .int .i64 y] 24 (0, 0))) :
    Calls Try.prog 36 #[v, .int .i64 O.length, .slice (some ⟨vb, 0, none⟩) 1 1] w (InsPost B (O ++ [(x, y)]) w) := by
  obtain ⟨i0, hi, hz0, hz1, hz2⟩ := info_parts infoP
  obtain ⟨g, cap, rfl, hBg, hgs, hlc, hcm⟩ := hR.shape
  unfold maxLen at hcm
  obtain ⟨b0, b1, _, _⟩ := blk2 hvb
  have hR := Lib.hid hR
  have hvb := Lib.hid hvb
  obtain ⟨n, hn⟩ : ∃ n, n = O.length := ⟨_, rfl⟩
  rw [← hn] at hl hlc ⊢
  have hRow : Hid (w.ownsRow B 24 2 (.slice (some ⟨g, 0, none⟩) n cap) n (flatP O)) := Lib.hid (by rw [hn]; exact hR.out.1)
  have hn := Lib.hid hn
  go_enter Try.func36, Try.ntmps36
  go_wp2_with (at_builtin; refine wpList_append_own _ rfl _ _ 30 rfl B 24 i0 (.agg #[.int .i64 0, .int .i64 0]) 2 16 Try.underlying30 hi hz0 hz1 hz2 rfl (by decide) _ _ _ rfl hRow.out ⟨vb, 0, none⟩ 1 1 [.int .i64 x, .int .i64 y] rfl rfl ?c1 ?c2 ?c3 ?c4 ?c5 ?_)
  case c1 => exact two_at hvb.out
  case c2 => intro u hu; simp at hu; rcases hu with rfl | rfl <;> rfl
  case c3 => unfold maxLen; omega
  case c4 => omega
  case c5 => exact hB
  all_goals
    intro v' w' hown hgrow hnil
    have R1 := Lib.hid (hR.out.put (by first | exact hown | (rw [← hn.out]; exact hown)) (fun e => hnil e))
    have B1 : Hid (Below B w w') := Lib.hid (by exact ⟨hgrow.os, hgrow.tape, hgrow.output, hgrow.size, fun k hk => hgrow.block k (by omega) (fun e => by simp [Value.ownBlock] at e; omega)⟩)
    clear hown hgrow hnil
    go_wp2_with fail
    go_ret
    exact ⟨_, rfl, R1.out, B1.out⟩

theorem sc_below' (b k : Nat) (hk : k ≠ b) : ∀ (vs : List Value) (o : Nat) (w : World), (w.setCells b o vs).heap[k]? = w.heap[k]?
  | [], _, w => rfl
  | v :: r, o, w => (sc_below' b k hk r (o + 1) _).trans (Below.heap_setCell _ _ _ _ hk)

set_option maxHeartbeats 4000000 in
theorem ins_shift (B vb g cap i : Nat) (O : List Pid) (x y : Int) (w : World) (hR : Row w B (.slice (some ⟨g, 0, none⟩) O.length cap) O) (hBg : B ≤ g) (hlc : O.length + 1 ≤ cap) (hcm : cap ≤ maxLen) (hl : O.length ≤ 1900000) (hi : i < O.length) (hgv : vb ≠ g) (hvb : w.heap[vb]? = some (.cells #[.int .i64 x, .int .i64 y] 24 (0, 0))) :
    Calls Try.prog 36 #[.slice (some ⟨g, 0, none⟩) O.length cap, .int .i64 i, .slice (some ⟨vb, 0, none⟩) 1 1] w (InsPost B (O.take i ++ (x, y) :: O.drop i) w) := by
  obtain ⟨i0, hi0, hz0, hz1, hz2⟩ := info_parts infoP
  unfold maxLen at hcm
  obtain ⟨cur, hcur, hsz, _, hsome, hfree, hcs⟩ := hR.parts
  obtain ⟨b0, b1, _, _⟩ := blk2 hvb
  have hov : ∀ lb cb, (callFunc 42 #[.slice (some ⟨vb, 0, none⟩) 1 1, .slice (some ⟨g, (i + 1) * 2, none⟩) lb cb]).run Try.prog w = .ok (.value (.bool false)) w := fun lb cb => by
    rw [run_callFunc_extern Try.func42 (by kernel_rfl) (by kernel_rfl) (by kernel_rfl) (e := Extern.SlicesOverlaps.overlaps #[30, 30] #[4]) (by kernel_rfl),
      Lib.run_overlaps_apart w 30 4 24 Try.underlying30 2 (fun w => by simp [sizeOf, typeInfo, hi0, hz1]) ⟨vb, 0, none⟩ ⟨g, (i + 1) * 2, none⟩ 1 1 lb cb hgv 24 24 2 cur.size (by simp [World.shape?, hvb]) (by simp [World.shape?, hcur]) (by omega) (by simp [World.frozen?, hvb]) (by simp [World.frozen?, hvb])]
    rfl
  have hcl := flatP_len O
  have h1 := flatP_one O
  have h2 := two_at hvb
  have hsz2 : (Try.prog.info? 24).map (·.size) = some 2 := by rw [hi0]; simp [hz1]
  obtain ⟨n, hn⟩ : ∃ n, O.length = n := ⟨_, rfl⟩
  rw [hn] at hlc hl hi hcs hcl ⊢
  have hdl : ((flatP O).drop (i * 2)).length = (n - i) * 2 := by rw [List.length_drop, hcl]; omega
  have hcsv : ∀ j v, (flatP O)[j]? = some v → w.cell? ⟨g, j, none⟩ = some v := fun j v hj => by
    rcases Nat.lt_or_ge j (n * 2) with h | h
    · rw [hcs j h]; exact hj
    · rw [List.getElem?_eq_none (by omega)] at hj; cases hj
  have hcp1 : ∀ ty la dc lb sc, Nat.min lb la = n - i → (Builtin.copy_ #[30, 30] ty #[.slice (some ⟨g, (i + 1) * 2, none⟩) la dc, .slice (some ⟨g, i * 2, none⟩) lb sc]).run Try.prog w.drew = .ok (goInt ((n - i : Nat) : Int)) (w.drew.setCells g ((i + 1) * 2) ((flatP O).drop (i * 2))) := fun ty la dc lb sc hk =>
    run_copy2 w.drew _ _ ty 24 g ((i + 1) * 2) la dc ⟨g, i * 2, none⟩ lb sc (n - i) ((flatP O).drop (i * 2)) Try.underlying30 hsz2 hk hdl
      (fun j v hj => by
        have e : (⟨g, i * 2, none⟩ : Addr).add j = ⟨g, i * 2 + j, none⟩ := by unfold Addr.add; split <;> simp_all
        rw [e]; exact hcsv (i * 2 + j) v (by rwa [List.getElem?_drop] at hj))
      (fun j hj => hsome _ (by omega)) (fun j hj => hfree _) (fun v hv => h1 v (List.mem_of_mem_drop hv))
  obtain ⟨W1, hW1⟩ : ∃ W1, W1 = w.drew.setCells g ((i + 1) * 2) ((flatP O).drop (i * 2)) := ⟨_, rfl⟩
  rw [← hW1] at hcp1
  obtain ⟨cur1, hcur1, hsz1⟩ : ∃ cur1, W1.heap[g]? = some (.cells cur1 24 (0, 0)) ∧ cur1.size = cur.size := by
    rw [hW1]; exact sc_heap g _ _ w.drew cur 24 hcur
  have hcp2 : ∀ (W : World), W.heap = W1.heap → ∀ ty la dc, 1 ≤ la → (Builtin.copy_ #[30, 30] ty #[.slice (some ⟨g, i * 2, none⟩) la dc, .slice (some ⟨vb, 0, none⟩) 1 1]).run Try.prog W = .ok (goInt ((1 : Nat) : Int)) (W.setCells g (i * 2) [.int .i64 x, .int .i64 y]) := fun W hW ty la dc hla =>
    run_copy2 W _ _ ty 24 g (i * 2) la dc ⟨vb, 0, none⟩ 1 1 1 [.int .i64 x, .int .i64 y] Try.underlying30 hsz2 (Nat.min_eq_left hla) rfl
      (two_at (by rw [hW, hW1]; exact ((sc_below' g vb hgv _ _ _).trans hvb)))
      (fun j hj => by
        rw [cell_of_cells (hW ▸ hcur1), Array.getElem?_eq_getElem (by simp at hj; omega)]; rfl)
      (fun j hj => by simp [World.frozen?, hW, hcur1]) (fun u hu => by simp at hu; rcases hu with rfl | rfl <;> rfl)
  have hz2 : ¬ ((i : Int) = (n : Int)) := by omega
  have hw1 : IntKind.i64.wrap ((i : Int) + 1) = (i : Int) + 1 := by rw [IntKind.wrap_i64]; omega
  have hb1 : (0 : Int) ≤ (i : Int) + 1 := by omega
  have hin : i ≤ n := by omega
  have htn : ((i : Int) + 1).toNat = i + 1 := by omega
  have hb2 : ¬ (cap = i + 1) := by omega
  have hb3 : (i : Int) ≤ (n : Int) + 1 := by omega
  have hb4 : ¬ (cap = i) := by omega
  have hn := Lib.hid hn
  have hcs := Lib.hid hcs
  have hR := Lib.hid hR
  have hsome := Lib.hid hsome
  replace hW1 := Lib.hid hW1
  replace hcur1 := Lib.hid hcur1
  replace hcur := Lib.hid hcur
  have mixed : Try.prog.follows .mixedOrders = true := by kernel_rfl
  have hc1 := hcp1 3 (n - i) (cap - (i + 1)) (n + 1 - i) (cap - i) (by simp only [Nat.min_def]; split <;> omega)
  have hc2 := hcp2 W1 rfl 3 (n + 1 - i) (cap - i) (by omega)
  clear h1 h2 hcsv hdl hcp1 hcp2
  go_enter Try.func36, Try.ntmps36
  go_wp2_with (simp only [hov])
  go_region
  go_wp2_with fail
  go_ret
  obtain ⟨cur2, hcur2, hsz2⟩ := sc_heap g [.int .i64 x, .int .i64 y] (i * 2) W1 cur1 24 hcur1.out
  have hO' : (O.take i ++ (x, y) :: O.drop i).length = n + 1 := by rw [ins_len (by rw [hn.out]; exact hin), hn.out]
  refine ⟨_, rfl, ?_, ?_⟩
  · rw [← hO']
    refine row_of hBg hcur2 (by rw [hsz2, hsz1, hsz]) (by omega) (by unfold maxLen; omega) (fun j hj => ?_)
    rw [hO'] at hj
    rw [flatP_ins, hW1.out]
    exact (two_sets w.drew g i n hin (flatP O) _ _ hcl (fun j hj => hsome.out j (by omega)) (fun j hj => hcs.out j (by omega))).1 j hj
  · rw [hW1.out]
    exact ((Below.refl B w).drew.trans (sc_below g B hBg _ _ _)).trans (sc_below g B hBg _ _ _)

theorem sc_drew (b : Nat) : ∀ (vs : List Value) (o : Nat) (w : World), w.drew.setCells b o vs = (w.setCells b o vs).drew
  | [], _, _ => rfl
  | v :: r, o, w => by rw [World.setCells, World.setCells, ← sc_drew b r]; rfl
theorem zc_size (k : Nat) : (Builtin.zeroCells (Value.agg #[.int .i64 0, .int .i64 0]).cells k).size = k * 2 := by
  simp [Builtin.zeroCells, Value.cells]

set_option maxHeartbeats 4000000 in
theorem ins_grow (B vb g cap i : Nat) (O : List Pid) (x y : Int) (w : World) (hR : Row w B (.slice (some ⟨g, 0, none⟩) O.length cap) O) (hB : B ≤ w.heap.size) (hnc : O.length ≤ cap) (hlc : cap < O.length + 1) (hl : O.length ≤ 1900000) (hi : i < O.length) (hvb : w.heap[vb]? = some (.cells #[.int .i64 x, .int .i64 y] 24 (0, 0))) :
    Calls Try.prog 36 #[.slice (some ⟨g, 0, none⟩) O.length cap, .int .i64 i, .slice (some ⟨vb, 0, none⟩) 1 1] w (InsPost B (O.take i ++ (x, y) :: O.drop i) w) := by
  obtain ⟨i0, hi0, hz0, hz1, hz2'⟩ := info_parts infoP
  obtain ⟨cur, hcur, hsz, _, hsome, hfree, hcs⟩ := hR.parts
  have hcl := flatP_len O
  have h1 := flatP_one O
  have hsz2 : (Try.prog.info? 24).map (·.size) = some 2 := by rw [hi0]; simp [hz1]
  obtain ⟨n, hn⟩ : ∃ n, O.length = n := ⟨_, rfl⟩
  rw [hn] at hnc hlc hl hi hcs hcl ⊢
  have hdl : ((flatP O).drop (i * 2)).length = (n - i) * 2 := by rw [List.length_drop, hcl]; omega
  have htl : ((flatP O).take (i * 2)).length = i * 2 := by rw [List.length_take, hcl]; omega
  have hgs := lt_of_heap hcur
  have hvs := lt_of_heap hvb
  have hcsv : ∀ j v, (flatP O)[j]? = some v → w.cell? ⟨g, j, none⟩ = some v := fun j v hj => by
    rcases Nat.lt_or_ge j (n * 2) with h | h
    · rw [hcs j h]; exact hj
    · rw [List.getElem?_eq_none (by omega)] at hj; cases hj
  have hadd : ∀ (b o j : Nat), (⟨b, o, none⟩ : Addr).add j = ⟨b, o + j, none⟩ := fun b o j => by unfold Addr.add; split <;> simp_all
  have hold : (Builtin.firstCells i0.size i (.slice (some ⟨g, 0, none⟩) i cap)).run Try.prog w.drew = .ok ((flatP O).take (i * 2)).toArray w.drew := by
    rw [hz1]
    exact run_firstCells_some w.drew 2 i ⟨g, 0, none⟩ i cap ((flatP O).take (i * 2)) htl (fun j v hj => by
      rw [hadd, Nat.zero_add]
      rw [List.getElem?_take] at hj
      split at hj
      · exact hcsv j v hj
      · cases hj)
  have hkk : (n : Int) + 1 - (i : Int) = ((n + 1 - i : Nat) : Int) := by omega
  have hik : i + (n + 1 - i) = n + 1 := by omega
  obtain ⟨G, hG⟩ : ∃ G, G = grownCap w (n + 1) cap 24 := ⟨_, rfl⟩
  obtain ⟨ROW, hROW⟩ : ∃ ROW : Array Value, ROW = ((flatP O).take (i * 2)).toArray ++ Builtin.zeroCells (Value.agg #[.int .i64 0, .int .i64 0]).cells (n + 1 - i) ++ Builtin.zeroCells (Value.agg #[.int .i64 0, .int .i64 0]).cells (G - (n + 1)) := ⟨_, rfl⟩
  obtain ⟨W1, hW1⟩ : ∃ W1, W1 = w.drew.alloc (.cells ROW 24) := ⟨_, rfl⟩
  have hrz : ∀ ty, (Builtin.append_ #[30, 3] ty #[.slice (some ⟨g, 0, none⟩) i cap, .int .i64 ((n : Int) + 1 - (i : Int))]).run Try.prog w = .ok (.slice (some ⟨w.heap.size, 0, none⟩) (n + 1) G) W1 := fun ty => by
    have h := Lib.run_append_grow_zeros w 30 3 ty 24 i0 _ .i64 .i64 Try.underlying30 Try.underlying3 hi0 hz0 (some ⟨g, 0, none⟩) i cap _ hold (n + 1 - i) (by omega) (by omega) (by omega) (by omega) (by rw [hz2']; omega) (by rw [hz2', hik]; exact growslice_fits hlc (by omega))
    rw [hik] at h
    rw [hkk, h, hW1, hROW, hG]
  have hGn : n + 1 ≤ G := by rw [hG]; exact grownCap_ge w _ _ _
  have hGm : G ≤ maxLen := by rw [hG]; exact grownCap_le_maxLen w (n + 1) cap 24 (by unfold maxLen; omega)
  have hRs : ROW.size = G * 2 := by
    rw [hROW, Array.size_append, Array.size_append, zc_size, zc_size, List.size_toArray, htl]; omega
  have hN : W1.heap[w.heap.size]? = some (.cells ROW 24 (0, 0)) := by rw [hW1]; exact heap_alloc_new w.drew _
  have hold1 : ∀ k, k < w.heap.size → W1.heap[k]? = w.heap[k]? := fun k hk => by rw [hW1]; exact Below.heap_alloc w.drew _ k hk
  have hfront : ∀ j, j < i * 2 → W1.cell? ⟨w.heap.size, j, none⟩ = (flatP O)[j]? := fun j hj => by
    rw [cell_of_cells hN, hROW, Array.getElem?_append_left (by rw [Array.size_append, List.size_toArray, htl]; omega), Array.getElem?_append_left (by rw [List.size_toArray, htl]; exact hj), List.getElem?_toArray, List.getElem?_take, if_pos hj]
  have hsome1 : ∀ j, j < (n + 1) * 2 → (W1.cell? ⟨w.heap.size, j, none⟩).isSome = true := fun j hj => by
    rw [cell_of_cells hN, Array.getElem?_eq_getElem (by omega)]; rfl
  have hcA : ∀ ty dc la, 1 ≤ la → (Builtin.copy_ #[30, 30] ty #[.slice (some ⟨w.heap.size, i * 2, none⟩) la dc, .slice (some ⟨vb, 0, none⟩) 1 1]).run Try.prog W1 = .ok (goInt ((1 : Nat) : Int)) (W1.setCells w.heap.size (i * 2) [.int .i64 x, .int .i64 y]) := fun ty dc la hla =>
    run_copy2 W1 _ _ ty 24 w.heap.size (i * 2) la dc ⟨vb, 0, none⟩ 1 1 1 [.int .i64 x, .int .i64 y] Try.underlying30 hsz2 (Nat.min_eq_left hla) rfl
      (two_at (by rw [hold1 vb hvs]; exact hvb)) (fun j hj => hsome1 _ (by simp at hj; omega))
      (fun j hj => by simp [World.frozen?, hN]) (fun u hu => by simp at hu; rcases hu with rfl | rfl <;> rfl)
  obtain ⟨W2, hW2⟩ : ∃ W2, W2 = W1.setCells w.heap.size (i * 2) [.int .i64 x, .int .i64 y] := ⟨_, rfl⟩
  rw [← hW2] at hcA
  obtain ⟨cur2, hcur2, hsz3⟩ : ∃ cur2, W2.heap[w.heap.size]? = some (.cells cur2 24 (0, 0)) ∧ cur2.size = G * 2 := by
    rw [hW2, ← hRs]; exact sc_heap _ _ _ W1 ROW 24 hN
  have hold2 : W2.heap[g]? = w.heap[g]? := by rw [hW2, sc_below' _ _ (by omega), hold1 g hgs]
  have hcB : ∀ ty la dc lb sc, Nat.min lb la = n - i → (Builtin.copy_ #[30, 30] ty #[.slice (some ⟨w.heap.size, (i + 1) * 2, none⟩) la dc, .slice (some ⟨g, i * 2, none⟩) lb sc]).run Try.prog W2.drew = .ok (goInt ((n - i : Nat) : Int)) (W2.drew.setCells w.heap.size ((i + 1) * 2) ((flatP O).drop (i * 2))) := fun ty la dc lb sc hk =>
    run_copy2 W2.drew _ _ ty 24 w.heap.size ((i + 1) * 2) la dc ⟨g, i * 2, none⟩ lb sc (n - i) ((flatP O).drop (i * 2)) Try.underlying30 hsz2 hk hdl
      (fun j v hj => by
        rw [hadd]
        have e : W2.drew.cell? ⟨g, i * 2 + j, none⟩ = w.cell? ⟨g, i * 2 + j, none⟩ := World.cell?_of_block (a := ⟨g, i * 2 + j, none⟩) hold2
        rw [e]; exact hcsv (i * 2 + j) v (by rwa [List.getElem?_drop] at hj))
      (fun j hj => by rw [cell_of_cells (w := W2.drew) hcur2, Array.getElem?_eq_getElem (by omega)]; rfl)
      (fun j hj => by have : W2.drew.heap[w.heap.size]? = _ := hcur2; simp [World.frozen?, this]) (fun v hv => h1 v (List.mem_of_mem_drop hv))
  have hN2 : W2.drew.heap[w.heap.size]? = some (.cells cur2 24 (0, 0)) := hcur2
  obtain ⟨W3, hW3⟩ : ∃ W3, W3 = W2.drew.setCells w.heap.size ((i + 1) * 2) ((flatP O).drop (i * 2)) := ⟨_, rfl⟩
  rw [← hW3] at hcB
  have hO' : (O.take i ++ (x, y) :: O.drop i).length = n + 1 := by rw [ins_len (by rw [hn]; omega), hn]
  have RES : Hid (Row W3 B (.slice (some ⟨w.heap.size, 0, none⟩) (n + 1) G) (O.take i ++ (x, y) :: O.drop i) ∧ Below B w W3) := Lib.hid ⟨by
    obtain ⟨cur3, hcur3, hsz4⟩ := sc_heap w.heap.size ((flatP O).drop (i * 2)) ((i + 1) * 2) W2.drew cur2 24 hN2
    rw [← hW3] at hcur3
    rw [← hO']
    refine row_of hB hcur3 (by rw [hsz4, hsz3]) (by omega) hGm (fun j hj => ?_)
    rw [hO'] at hj
    rw [flatP_ins, hW3, sc_drew, hW2]
    exact (two_sets W1 w.heap.size i n (by omega) (flatP O) _ _ hcl hsome1 hfront).2 j hj, by
    rw [hW3, hW2, hW1]
    exact ((((Below.refl B w).drew.alloc hB _).trans (sc_below _ B hB _ _ _)).drew).trans (sc_below _ B hB _ _ _)⟩
  have hz2 : ¬ ((i : Int) = (n : Int)) := by omega
  have hz3 : (cap : Int) < (n : Int) + 1 := by omega
  have hw1 : IntKind.i64.wrap ((i : Int) + 1) = (i : Int) + 1 := by rw [IntKind.wrap_i64]; omega
  have hb1 : (0 : Int) ≤ (i : Int) + 1 := by omega
  have hin : i ≤ n := by omega
  have htn : ((i : Int) + 1).toNat = i + 1 := by omega
  have hb3 : (i : Int) ≤ (n : Int) + 1 := by omega
  have hb5 : (i : Int) ≤ (n : Int) := by omega
  have hGi : ¬ (G = i) := by omega
  have hGim : ¬ (G = i + 1) := by omega
  have hci : ¬ (cap = i) := by omega
  have hG63 : G ≤ 9223372036854775807 := by unfold maxLen at hGm; omega
  have mixed : Try.prog.follows .mixedOrders = true := by kernel_rfl
  have hc1 := hcA 3 (G - i) (n + 1 - i) (by omega)
  have hc2 := hcB 3 (n - i) (G - (i + 1)) (n - i) (cap - i) (by simp)
  clear hold hkk hik hROW hG hRs hN hold1 hfront hsome1 hcA hcB hW1 hW2 hW3 hcur2 hold2 hN2 hsz3 h1 hdl htl hcsv hadd hcs hsome hfree hR hcur hGm
  go_enter Try.func36, Try.ntmps36
  go_wp2_with (at_builtin; refine Lib.wpList_append_run _ rfl _ _ _ _ rfl _ _ rfl rfl _ _ (hrz _) ?_)
  go_region
  go_wp2_with fail
  go_ret
  exact ⟨_, rfl, RES.out.1, RES.out.2⟩
end Go.Proofs.Ytoepimmkebbgcaa
