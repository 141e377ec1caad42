/- Texts laid together. -/
import Derived.Test.YtdikcenhakfheaaC03
import Derived.Test.YtdikcenhakfheaaC01
import Derived.Deep.RegionWith
import Derived.Deep.RegionHeld3
import Derived.IntWalk
/- Draws of ballots, rounds and replicas. -/
namespace Go.Proofs.Ytdikcenhakfheaa
open Go.RowKit
set_option linter.unusedVariables false

theorem blk5 {w : World} {b : Nat} {x0 x1 x2 x3 x4 : Value} {t : TypeId} (h : w.heap[b]? = some (.cells #[x0, x1, x2, x3, x4] t (0, 0))) :
    w.cell? ⟨b, 0, none⟩ = some x0 ∧ w.cell? ⟨b, 1, none⟩ = some x1 ∧ w.cell? ⟨b, 2, none⟩ = some x2 ∧ w.cell? ⟨b, 3, none⟩ = some x3 ∧ w.cell? ⟨b, 4, none⟩ = some x4 := by
  simp [World.cell?, h]
theorem blk4b {w : World} {b : Nat} {x0 x1 x2 x3 : Value} {t : TypeId} (h : w.heap[b]? = some (.cells #[x0, x1, x2, x3] t (0, 0))) :
    w.cell? ⟨b, 0, none⟩ = some x0 ∧ w.cell? ⟨b, 1, none⟩ = some x1 ∧ w.cell? ⟨b, 2, none⟩ = some x2 ∧ w.cell? ⟨b, 3, none⟩ = some x3 := by
  simp [World.cell?, h]
theorem ltHb {w : World} {b : Nat} {o : Obj} (h : w.heap[b]? = some o) : b < w.heap.size := (Array.getElem?_eq_some_iff.1 h).1
theorem Rd.drewB {w : World} {r n : Nat} (h : Rd w r n) : Rd w.drew r n := h.kept ⟨rfl, rfl, rfl, Nat.le_refl _, fun _ _ => rfl⟩

theorem lit5n {w : World} {b j : Nat} {t : TypeId} (h : w.heap[b]? = some (.cells #[.int .i64 (-1), .int .i64 994, .int .i64 998, .int .i64 999, .int .i64 1000] t (0, 0))) (hj : j < 5) : ∃ z : Int, w.cell? ⟨b, j, none⟩ = some (.int .i64 z) ∧ -1 ≤ z ∧ z ≤ 1000 := by
  rcases (show j = 0 ∨ j = 1 ∨ j = 2 ∨ j = 3 ∨ j = 4 by omega) with rfl | rfl | rfl | rfl | rfl
  · exact ⟨-1, by simp [World.cell?, h], by decide, by decide⟩
  · exact ⟨994, by simp [World.cell?, h], by decide, by decide⟩
  · exact ⟨998, by simp [World.cell?, h], by decide, by decide⟩
  · exact ⟨999, by simp [World.cell?, h], by decide, by decide⟩
  · exact ⟨1000, by simp [World.cell?, h], by decide, by decide⟩
theorem lit4a {w : World} {b j : Nat} {t : TypeId} (h : w.heap[b]? = some (.cells #[.int .i64 (-1), .int .i64 0, .int .i64 199, .int .i64 200] t (0, 0))) (hj : j < 4) : ∃ z : Int, w.cell? ⟨b, j, none⟩ = some (.int .i64 z) ∧ -1 ≤ z ∧ z ≤ 200 := by
  rcases (show j = 0 ∨ j = 1 ∨ j = 2 ∨ j = 3 by omega) with rfl | rfl | rfl | rfl
  · exact ⟨-1, by simp [World.cell?, h], by decide, by decide⟩
  · exact ⟨0, by simp [World.cell?, h], by decide, by decide⟩
  · exact ⟨199, by simp [World.cell?, h], by decide, by decide⟩
  · exact ⟨200, by simp [World.cell?, h], by decide, by decide⟩
theorem lit4b {w : World} {b j : Nat} {t : TypeId} (h : w.heap[b]? = some (.cells #[.int .i64 (-1), .int .i64 4, .int .i64 5, .int .i64 0] t (0, 0))) (hj : j < 4) : ∃ z : Int, w.cell? ⟨b, j, none⟩ = some (.int .i64 z) ∧ -1 ≤ z ∧ z ≤ 5 := by
  rcases (show j = 0 ∨ j = 1 ∨ j = 2 ∨ j = 3 by omega) with rfl | rfl | rfl | rfl
  · exact ⟨-1, by simp [World.cell?, h], by decide, by decide⟩
  · exact ⟨4, by simp [World.cell?, h], by decide, by decide⟩
  · exact ⟨5, by simp [World.cell?, h], by decide, by decide⟩
  · exact ⟨0, by simp [World.cell?, h], by decide, by decide⟩

set_option maxRecDepth 100000 in
set_option maxHeartbeats 8000000 in
theorem dnbal_any (a : Option Addr) (len cap : Nat) (w : World) (hc : CodeIn w a len cap) (hcap : cap ≤ maxLen) :
    Calls Try.prog 11 #[.slice a len cap] w fun e w' => (∃ n p : Int, e = .returned (.tuple #[.int .i64 n, .int .i64 p]) ∧ -1 ≤ n ∧ n ≤ 1000 ∧ -1 ≤ p ∧ p ≤ 5) ∧ Below w.heap.size w w' := by
  go_enter Try.func11, Try.ntmps11
  go_wp2_with fail
  refine (open_any a len cap _ hc hcap).mono ?_
  rintro e w1 ⟨r, rfl, hr0, hr', hb'⟩
  have hr1 := Lib.hid hr'
  have D1 := Lib.hid hb'
  clear hr' hb'
  go_wp2_with fail
  refine (pick_any 8 r 0 _ hr1.out (by omega)).mono ?_
  rintro e w2 ⟨x, rfl, x0, x1', hr', hk⟩
  have x1 := x1' (by omega)
  have s1 := D1.out.size
  have K2 := Lib.hid ((Keep.of_below D1.out).trans (hk.mono s1))
  have R2 := Lib.hid hr'
  have s2 : w.heap.size ≤ w2.heap.size := K2.out.size
  clear hk D1 hr1 hr' x1'
  by_cases hx : x = 0
  · subst hx
    go_upto_region 3 with fail
    refine wp_region_held_drew (S := fun _ => True) (by kernel_rfl) trivial (fun _ => ?_)
    replace R2 := Lib.hid R2.out.drewB
    replace K2 := Lib.hid (K2.out.trans (Keep.of_below (Below.drew (Below.refl _ _))))
    have R := R2
    have Kp := K2
    have hrl := R.out.lt
    clear R2 K2
    generalize w2.drew = v0 at R Kp hrl ⊢
    try simp only [Act.put, List.setIfInBounds_toArray, List.set_cons_zero, List.set_cons_succ]
    refine wpAnyH_take (i := 1) (oi := ⟨some 11, _, _, _, _, _⟩) (v := ?_) rfl (by kernel_rfl) (by kernel_rfl) (by kernel_rfl) (fun _ _ _ h => h) (Or.inl ⟨by rfl, ?_⟩) trivial ?_
    rotate_left 1
    · intro w hSw; (try dsimp only at hSw); go_simp; (try rw [if_pos (by omega)]); try (with_reducible rfl)
    try simp only [Act.put, List.setIfInBounds_toArray, List.set_cons_zero, List.set_cons_succ]
    refine wpAnyH_take (i := 5) (oi := ⟨some 15, _, _, _, _, _⟩) (v := ?_) rfl (by kernel_rfl) (by kernel_rfl) (by kernel_rfl) (fun _ _ _ h => h) (Or.inl ⟨by rfl, ?_⟩) trivial ?_
    rotate_left 1
    · intro w hSw; (try dsimp only at hSw); go_simp; (try rw [if_pos (by omega)]); try (with_reducible rfl)
    try simp only [Act.put, List.setIfInBounds_toArray, List.set_cons_zero, List.set_cons_succ]
    refine wpAnyH_ready (rs := [0, 2]) (by kernel_rfl) (by simp) ?_
    refine AllReadyH.cons (o := ⟨some 10, _, _, _, _, _⟩) rfl (fun K hK => ?_) ?_
    · go_simp
      refine hK.out _ _ trivial (fun _ => ?_)
      clear hK K
      have HA := Lib.hid (heap_alloc_new v0 (.cells #[.int .i64 (-1), .int .i64 994, .int .i64 998, .int .i64 999, .int .i64 1000] 3))
      replace R := Lib.hid (R.out.alloc (.cells #[.int .i64 (-1), .int .i64 994, .int .i64 998, .int .i64 999, .int .i64 1000] 3))
      have hsz := Kp.out.size
      replace Kp := Lib.hid (Kp.out.alloc hsz (.cells #[.int .i64 (-1), .int .i64 994, .int .i64 998, .int .i64 999, .int .i64 1000] 3))
      have hrA : r < v0.heap.size := by have := hrl; omega
      clear hsz
      obtain ⟨bA, hbA⟩ : ∃ c, Hid (v0.heap.size = c) := ⟨_, Lib.hid rfl⟩
      rw [hbA.out] at HA hrA ⊢
      have hrl : r < (v0.alloc (.cells #[.int .i64 (-1), .int .i64 994, .int .i64 998, .int .i64 999, .int .i64 1000] 3)).heap.size := R.out.lt
      generalize World.alloc v0 (.cells #[.int .i64 (-1), .int .i64 994, .int .i64 998, .int .i64 999, .int .i64 1000] 3) = v1 at R Kp hrl HA  ⊢
      clear hbA
      try simp only [Act.put, List.setIfInBounds_toArray, List.set_cons_zero, List.set_cons_succ]
      refine wpAnyH_ready (rs := [2]) (by kernel_rfl) (by simp) ?_
      refine AllReadyH.cons (o := ⟨some 12, _, _, _, _, _⟩) rfl (fun K hK => ?_) AllReadyH.nil
      go_simp
      with_reducible refine (pick_any 5 r _ _ R.out (by omega)).mono ?_
      rintro e v2 ⟨ya, rfl, y0a, y1a, hr', hk⟩
      go_wp2_with fail
      refine hK.out _ _ trivial (fun _ => ?_)
      clear hK K
      replace y1a := y1a (by omega)
      obtain ⟨ja, rfl⟩ : ∃ j : Nat, ya = j := ⟨ya.toNat, by omega⟩
      have hja : ja < 5 := by omega
      replace R := Lib.hid hr'
      replace HA := Lib.hid ((hk.block _ (ltHb HA.out) (by omega)).trans HA.out)
      replace Kp := Lib.hid (Kp.out.trans (hk.mono Kp.out.size))
      have hrl : r < v2.heap.size := R.out.lt
      clear hr' hk y0a y1a
      try simp only [Act.put, List.setIfInBounds_toArray, List.set_cons_zero, List.set_cons_succ]
      refine wpAnyH_take (i := 3) (oi := ⟨some 13, _, _, _, _, _⟩) (v := ?_) rfl (by kernel_rfl) (by kernel_rfl) (by kernel_rfl) (fun _ _ _ h => h) (Or.inl ⟨by rfl, ?_⟩) trivial ?_
      rotate_left 1
      · intro w hSw; (try dsimp only at hSw); go_simp; (try rw [if_pos (by omega)]); try (with_reducible rfl)
      try simp only [Act.put, List.setIfInBounds_toArray, List.set_cons_zero, List.set_cons_succ]
      refine wpAnyH_ready (rs := [4, 6]) (by kernel_rfl) (by simp) ?_
      refine AllReadyH.cons (o := ⟨some 14, _, _, _, _, _⟩) rfl (fun K hK => ?_) ?_
      · obtain ⟨zA, hzA, z0A, z1A⟩ := lit5n HA.out hja
        go_simp
        refine hK.out _ _ trivial (fun _ => ?_)
        clear hK K hzA
        try simp only [Act.put, List.setIfInBounds_toArray, List.set_cons_zero, List.set_cons_succ]
        refine wpAnyH_ready (rs := [6]) (by kernel_rfl) (by simp) ?_
        refine AllReadyH.cons (o := ⟨some 16, _, _, _, _, _⟩) rfl (fun K hK => ?_) AllReadyH.nil
        go_simp
        with_reducible refine (pick_any 6 r _ _ R.out (by omega)).mono ?_
        rintro e v3 ⟨yb, rfl, y0b, y1b, hr', hk⟩
        go_wp2_with fail
        refine hK.out _ _ trivial (fun _ => ?_)
        clear hK K
        replace y1b := y1b (by omega)
        obtain ⟨jb, rfl⟩ : ∃ j : Nat, yb = j := ⟨yb.toNat, by omega⟩
        have hjb : jb < 6 := by omega
        replace R := Lib.hid hr'
        replace HA := Lib.hid ((hk.block _ (ltHb HA.out) (by omega)).trans HA.out)
        replace Kp := Lib.hid (Kp.out.trans (hk.mono Kp.out.size))
        have hrl : r < v3.heap.size := R.out.lt
        clear hr' hk y0b y1b
        try simp only [Act.put, List.setIfInBounds_toArray, List.set_cons_zero, List.set_cons_succ]
        refine wpAnyH_take (i := 7) (oi := ⟨some 2, _, _, _, _, _⟩) (v := ?_) rfl (by kernel_rfl) (by kernel_rfl) (by kernel_rfl) (fun _ _ _ h => h) (Or.inl ⟨by rfl, ?_⟩) trivial ?_
        rotate_left 1
        · intro w hSw; (try dsimp only at hSw); go_simp; (try rw [if_pos (by omega)]); try (with_reducible rfl)
        try simp only [Act.put, List.setIfInBounds_toArray, List.set_cons_zero, List.set_cons_succ]
        refine wpAnyH_take (i := 8) (oi := ⟨some 3, _, _, _, _, _⟩) (v := ?_) rfl (by kernel_rfl) (by kernel_rfl) (by kernel_rfl) (fun _ _ _ h => h) (Or.inl ⟨by rfl, ?_⟩) trivial ?_
        rotate_left 1
        · intro w hSw; (try dsimp only at hSw); go_simp; (try rw [if_pos (by omega)]); try (with_reducible rfl)
        try simp only [Act.put, List.setIfInBounds_toArray, List.set_cons_zero, List.set_cons_succ]
        refine wpAnyH_done (by kernel_rfl) ?_ _
        try simp only [Act.put, List.setIfInBounds_toArray, List.set_cons_zero, List.set_cons_succ]
        go_wp2_with fail
        go_ret2
        exact ⟨⟨_, _, rfl, by omega, by omega, by omega, by omega⟩, Kp.out.below hr0⟩
      refine AllReadyH.cons (o := ⟨some 16, _, _, _, _, _⟩) rfl (fun K hK => ?_) AllReadyH.nil
      go_simp
      with_reducible refine (pick_any 6 r _ _ R.out (by omega)).mono ?_
      rintro e v3 ⟨yb, rfl, y0b, y1b, hr', hk⟩
      go_wp2_with fail
      refine hK.out _ _ trivial (fun _ => ?_)
      clear hK K
      replace y1b := y1b (by omega)
      obtain ⟨jb, rfl⟩ : ∃ j : Nat, yb = j := ⟨yb.toNat, by omega⟩
      have hjb : jb < 6 := by omega
      replace R := Lib.hid hr'
      replace HA := Lib.hid ((hk.block _ (ltHb HA.out) (by omega)).trans HA.out)
      replace Kp := Lib.hid (Kp.out.trans (hk.mono Kp.out.size))
      have hrl : r < v3.heap.size := R.out.lt
      clear hr' hk y0b y1b
      try simp only [Act.put, List.setIfInBounds_toArray, List.set_cons_zero, List.set_cons_succ]
      refine wpAnyH_ready (rs := [4]) (by kernel_rfl) (by simp) ?_
      refine AllReadyH.cons (o := ⟨some 14, _, _, _, _, _⟩) rfl (fun K hK => ?_) AllReadyH.nil
      obtain ⟨zA, hzA, z0A, z1A⟩ := lit5n HA.out hja
      go_simp
      refine hK.out _ _ trivial (fun _ => ?_)
      clear hK K hzA
      try simp only [Act.put, List.setIfInBounds_toArray, List.set_cons_zero, List.set_cons_succ]
      refine wpAnyH_take (i := 7) (oi := ⟨some 2, _, _, _, _, _⟩) (v := ?_) rfl (by kernel_rfl) (by kernel_rfl) (by kernel_rfl) (fun _ _ _ h => h) (Or.inl ⟨by rfl, ?_⟩) trivial ?_
      rotate_left 1
      · intro w hSw; (try dsimp only at hSw); go_simp; (try rw [if_pos (by omega)]); try (with_reducible rfl)
      try simp only [Act.put, List.setIfInBounds_toArray, List.set_cons_zero, List.set_cons_succ]
      refine wpAnyH_take (i := 8) (oi := ⟨some 3, _, _, _, _, _⟩) (v := ?_) rfl (by kernel_rfl) (by kernel_rfl) (by kernel_rfl) (fun _ _ _ h => h) (Or.inl ⟨by rfl, ?_⟩) trivial ?_
      rotate_left 1
      · intro w hSw; (try dsimp only at hSw); go_simp; (try rw [if_pos (by omega)]); try (with_reducible rfl)
      try simp only [Act.put, List.setIfInBounds_toArray, List.set_cons_zero, List.set_cons_succ]
      refine wpAnyH_done (by kernel_rfl) ?_ _
      try simp only [Act.put, List.setIfInBounds_toArray, List.set_cons_zero, List.set_cons_succ]
      go_wp2_with fail
      go_ret2
      exact ⟨⟨_, _, rfl, by omega, by omega, by omega, by omega⟩, Kp.out.below hr0⟩
    refine AllReadyH.cons (o := ⟨some 12, _, _, _, _, _⟩) rfl (fun K hK => ?_) AllReadyH.nil
    go_simp
    with_reducible refine (pick_any 5 r _ _ R.out (by omega)).mono ?_
    rintro e v1 ⟨ya, rfl, y0a, y1a, hr', hk⟩
    go_wp2_with fail
    refine hK.out _ _ trivial (fun _ => ?_)
    clear hK K
    replace y1a := y1a (by omega)
    obtain ⟨ja, rfl⟩ : ∃ j : Nat, ya = j := ⟨ya.toNat, by omega⟩
    have hja : ja < 5 := by omega
    replace R := Lib.hid hr'
    replace Kp := Lib.hid (Kp.out.trans (hk.mono Kp.out.size))
    have hrl : r < v1.heap.size := R.out.lt
    clear hr' hk y0a y1a
    try simp only [Act.put, List.setIfInBounds_toArray, List.set_cons_zero, List.set_cons_succ]
    refine wpAnyH_ready (rs := [0, 6]) (by kernel_rfl) (by simp) ?_
    refine AllReadyH.cons (o := ⟨some 10, _, _, _, _, _⟩) rfl (fun K hK => ?_) ?_
    · go_simp
      refine hK.out _ _ trivial (fun _ => ?_)
      clear hK K
      have HA := Lib.hid (heap_alloc_new v1 (.cells #[.int .i64 (-1), .int .i64 994, .int .i64 998, .int .i64 999, .int .i64 1000] 3))
      replace R := Lib.hid (R.out.alloc (.cells #[.int .i64 (-1), .int .i64 994, .int .i64 998, .int .i64 999, .int .i64 1000] 3))
      have hsz := Kp.out.size
      replace Kp := Lib.hid (Kp.out.alloc hsz (.cells #[.int .i64 (-1), .int .i64 994, .int .i64 998, .int .i64 999, .int .i64 1000] 3))
      have hrA : r < v1.heap.size := by have := hrl; omega
      clear hsz
      obtain ⟨bA, hbA⟩ : ∃ c, Hid (v1.heap.size = c) := ⟨_, Lib.hid rfl⟩
      rw [hbA.out] at HA hrA ⊢
      have hrl : r < (v1.alloc (.cells #[.int .i64 (-1), .int .i64 994, .int .i64 998, .int .i64 999, .int .i64 1000] 3)).heap.size := R.out.lt
      generalize World.alloc v1 (.cells #[.int .i64 (-1), .int .i64 994, .int .i64 998, .int .i64 999, .int .i64 1000] 3) = v2 at R Kp hrl HA  ⊢
      clear hbA
      try simp only [Act.put, List.setIfInBounds_toArray, List.set_cons_zero, List.set_cons_succ]
      refine wpAnyH_take (i := 3) (oi := ⟨some 13, _, _, _, _, _⟩) (v := ?_) rfl (by kernel_rfl) (by kernel_rfl) (by kernel_rfl) (fun _ _ _ h => h) (Or.inl ⟨by rfl, ?_⟩) trivial ?_
      rotate_left 1
      · intro w hSw; (try dsimp only at hSw); go_simp; (try rw [if_pos (by omega)]); try (with_reducible rfl)
      try simp only [Act.put, List.setIfInBounds_toArray, List.set_cons_zero, List.set_cons_succ]
      refine wpAnyH_ready (rs := [4, 6]) (by kernel_rfl) (by simp) ?_
      refine AllReadyH.cons (o := ⟨some 14, _, _, _, _, _⟩) rfl (fun K hK => ?_) ?_
      · obtain ⟨zA, hzA, z0A, z1A⟩ := lit5n HA.out hja
        go_simp
        refine hK.out _ _ trivial (fun _ => ?_)
        clear hK K hzA
        try simp only [Act.put, List.setIfInBounds_toArray, List.set_cons_zero, List.set_cons_succ]
        refine wpAnyH_ready (rs := [6]) (by kernel_rfl) (by simp) ?_
        refine AllReadyH.cons (o := ⟨some 16, _, _, _, _, _⟩) rfl (fun K hK => ?_) AllReadyH.nil
        go_simp
        with_reducible refine (pick_any 6 r _ _ R.out (by omega)).mono ?_
        rintro e v3 ⟨yb, rfl, y0b, y1b, hr', hk⟩
        go_wp2_with fail
        refine hK.out _ _ trivial (fun _ => ?_)
        clear hK K
        replace y1b := y1b (by omega)
        obtain ⟨jb, rfl⟩ : ∃ j : Nat, yb = j := ⟨yb.toNat, by omega⟩
        have hjb : jb < 6 := by omega
        replace R := Lib.hid hr'
        replace HA := Lib.hid ((hk.block _ (ltHb HA.out) (by omega)).trans HA.out)
        replace Kp := Lib.hid (Kp.out.trans (hk.mono Kp.out.size))
        have hrl : r < v3.heap.size := R.out.lt
        clear hr' hk y0b y1b
        try simp only [Act.put, List.setIfInBounds_toArray, List.set_cons_zero, List.set_cons_succ]
        refine wpAnyH_take (i := 7) (oi := ⟨some 2, _, _, _, _, _⟩) (v := ?_) rfl (by kernel_rfl) (by kernel_rfl) (by kernel_rfl) (fun _ _ _ h => h) (Or.inl ⟨by rfl, ?_⟩) trivial ?_
        rotate_left 1
        · intro w hSw; (try dsimp only at hSw); go_simp; (try rw [if_pos (by omega)]); try (with_reducible rfl)
        try simp only [Act.put, List.setIfInBounds_toArray, List.set_cons_zero, List.set_cons_succ]
        refine wpAnyH_take (i := 8) (oi := ⟨some 3, _, _, _, _, _⟩) (v := ?_) rfl (by kernel_rfl) (by kernel_rfl) (by kernel_rfl) (fun _ _ _ h => h) (Or.inl ⟨by rfl, ?_⟩) trivial ?_
        rotate_left 1
        · intro w hSw; (try dsimp only at hSw); go_simp; (try rw [if_pos (by omega)]); try (with_reducible rfl)
        try simp only [Act.put, List.setIfInBounds_toArray, List.set_cons_zero, List.set_cons_succ]
        refine wpAnyH_done (by kernel_rfl) ?_ _
        try simp only [Act.put, List.setIfInBounds_toArray, List.set_cons_zero, List.set_cons_succ]
        go_wp2_with fail
        go_ret2
        exact ⟨⟨_, _, rfl, by omega, by omega, by omega, by omega⟩, Kp.out.below hr0⟩
      refine AllReadyH.cons (o := ⟨some 16, _, _, _, _, _⟩) rfl (fun K hK => ?_) AllReadyH.nil
      go_simp
      with_reducible refine (pick_any 6 r _ _ R.out (by omega)).mono ?_
      rintro e v3 ⟨yb, rfl, y0b, y1b, hr', hk⟩
      go_wp2_with fail
      refine hK.out _ _ trivial (fun _ => ?_)
      clear hK K
      replace y1b := y1b (by omega)
      obtain ⟨jb, rfl⟩ : ∃ j : Nat, yb = j := ⟨yb.toNat, by omega⟩
      have hjb : jb < 6 := by omega
      replace R := Lib.hid hr'
      replace HA := Lib.hid ((hk.block _ (ltHb HA.out) (by omega)).trans HA.out)
      replace Kp := Lib.hid (Kp.out.trans (hk.mono Kp.out.size))
      have hrl : r < v3.heap.size := R.out.lt
      clear hr' hk y0b y1b
      try simp only [Act.put, List.setIfInBounds_toArray, List.set_cons_zero, List.set_cons_succ]
      refine wpAnyH_ready (rs := [4]) (by kernel_rfl) (by simp) ?_
      refine AllReadyH.cons (o := ⟨some 14, _, _, _, _, _⟩) rfl (fun K hK => ?_) AllReadyH.nil
      obtain ⟨zA, hzA, z0A, z1A⟩ := lit5n HA.out hja
      go_simp
      refine hK.out _ _ trivial (fun _ => ?_)
      clear hK K hzA
      try simp only [Act.put, List.setIfInBounds_toArray, List.set_cons_zero, List.set_cons_succ]
      refine wpAnyH_take (i := 7) (oi := ⟨some 2, _, _, _, _, _⟩) (v := ?_) rfl (by kernel_rfl) (by kernel_rfl) (by kernel_rfl) (fun _ _ _ h => h) (Or.inl ⟨by rfl, ?_⟩) trivial ?_
      rotate_left 1
      · intro w hSw; (try dsimp only at hSw); go_simp; (try rw [if_pos (by omega)]); try (with_reducible rfl)
      try simp only [Act.put, List.setIfInBounds_toArray, List.set_cons_zero, List.set_cons_succ]
      refine wpAnyH_take (i := 8) (oi := ⟨some 3, _, _, _, _, _⟩) (v := ?_) rfl (by kernel_rfl) (by kernel_rfl) (by kernel_rfl) (fun _ _ _ h => h) (Or.inl ⟨by rfl, ?_⟩) trivial ?_
      rotate_left 1
      · intro w hSw; (try dsimp only at hSw); go_simp; (try rw [if_pos (by omega)]); try (with_reducible rfl)
      try simp only [Act.put, List.setIfInBounds_toArray, List.set_cons_zero, List.set_cons_succ]
      refine wpAnyH_done (by kernel_rfl) ?_ _
      try simp only [Act.put, List.setIfInBounds_toArray, List.set_cons_zero, List.set_cons_succ]
      go_wp2_with fail
      go_ret2
      exact ⟨⟨_, _, rfl, by omega, by omega, by omega, by omega⟩, Kp.out.below hr0⟩
    refine AllReadyH.cons (o := ⟨some 16, _, _, _, _, _⟩) rfl (fun K hK => ?_) AllReadyH.nil
    go_simp
    with_reducible refine (pick_any 6 r _ _ R.out (by omega)).mono ?_
    rintro e v2 ⟨yb, rfl, y0b, y1b, hr', hk⟩
    go_wp2_with fail
    refine hK.out _ _ trivial (fun _ => ?_)
    clear hK K
    replace y1b := y1b (by omega)
    obtain ⟨jb, rfl⟩ : ∃ j : Nat, yb = j := ⟨yb.toNat, by omega⟩
    have hjb : jb < 6 := by omega
    replace R := Lib.hid hr'
    replace Kp := Lib.hid (Kp.out.trans (hk.mono Kp.out.size))
    have hrl : r < v2.heap.size := R.out.lt
    clear hr' hk y0b y1b
    try simp only [Act.put, List.setIfInBounds_toArray, List.set_cons_zero, List.set_cons_succ]
    refine wpAnyH_ready (rs := [0]) (by kernel_rfl) (by simp) ?_
    refine AllReadyH.cons (o := ⟨some 10, _, _, _, _, _⟩) rfl (fun K hK => ?_) AllReadyH.nil
    go_simp
    refine hK.out _ _ trivial (fun _ => ?_)
    clear hK K
    have HA := Lib.hid (heap_alloc_new v2 (.cells #[.int .i64 (-1), .int .i64 994, .int .i64 998, .int .i64 999, .int .i64 1000] 3))
    replace R := Lib.hid (R.out.alloc (.cells #[.int .i64 (-1), .int .i64 994, .int .i64 998, .int .i64 999, .int .i64 1000] 3))
    have hsz := Kp.out.size
    replace Kp := Lib.hid (Kp.out.alloc hsz (.cells #[.int .i64 (-1), .int .i64 994, .int .i64 998, .int .i64 999, .int .i64 1000] 3))
    have hrA : r < v2.heap.size := by have := hrl; omega
    clear hsz
    obtain ⟨bA, hbA⟩ : ∃ c, Hid (v2.heap.size = c) := ⟨_, Lib.hid rfl⟩
    rw [hbA.out] at HA hrA ⊢
    have hrl : r < (v2.alloc (.cells #[.int .i64 (-1), .int .i64 994, .int .i64 998, .int .i64 999, .int .i64 1000] 3)).heap.size := R.out.lt
    generalize World.alloc v2 (.cells #[.int .i64 (-1), .int .i64 994, .int .i64 998, .int .i64 999, .int .i64 1000] 3) = v3 at R Kp hrl HA  ⊢
    clear hbA
    try simp only [Act.put, List.setIfInBounds_toArray, List.set_cons_zero, List.set_cons_succ]
    refine wpAnyH_take (i := 3) (oi := ⟨some 13, _, _, _, _, _⟩) (v := ?_) rfl (by kernel_rfl) (by kernel_rfl) (by kernel_rfl) (fun _ _ _ h => h) (Or.inl ⟨by rfl, ?_⟩) trivial ?_
    rotate_left 1
    · intro w hSw; (try dsimp only at hSw); go_simp; (try rw [if_pos (by omega)]); try (with_reducible rfl)
    try simp only [Act.put, List.setIfInBounds_toArray, List.set_cons_zero, List.set_cons_succ]
    refine wpAnyH_ready (rs := [4]) (by kernel_rfl) (by simp) ?_
    refine AllReadyH.cons (o := ⟨some 14, _, _, _, _, _⟩) rfl (fun K hK => ?_) AllReadyH.nil
    obtain ⟨zA, hzA, z0A, z1A⟩ := lit5n HA.out hja
    go_simp
    refine hK.out _ _ trivial (fun _ => ?_)
    clear hK K hzA
    try simp only [Act.put, List.setIfInBounds_toArray, List.set_cons_zero, List.set_cons_succ]
    refine wpAnyH_take (i := 7) (oi := ⟨some 2, _, _, _, _, _⟩) (v := ?_) rfl (by kernel_rfl) (by kernel_rfl) (by kernel_rfl) (fun _ _ _ h => h) (Or.inl ⟨by rfl, ?_⟩) trivial ?_
    rotate_left 1
    · intro w hSw; (try dsimp only at hSw); go_simp; (try rw [if_pos (by omega)]); try (with_reducible rfl)
    try simp only [Act.put, List.setIfInBounds_toArray, List.set_cons_zero, List.set_cons_succ]
    refine wpAnyH_take (i := 8) (oi := ⟨some 3, _, _, _, _, _⟩) (v := ?_) rfl (by kernel_rfl) (by kernel_rfl) (by kernel_rfl) (fun _ _ _ h => h) (Or.inl ⟨by rfl, ?_⟩) trivial ?_
    rotate_left 1
    · intro w hSw; (try dsimp only at hSw); go_simp; (try rw [if_pos (by omega)]); try (with_reducible rfl)
    try simp only [Act.put, List.setIfInBounds_toArray, List.set_cons_zero, List.set_cons_succ]
    refine wpAnyH_done (by kernel_rfl) ?_ _
    try simp only [Act.put, List.setIfInBounds_toArray, List.set_cons_zero, List.set_cons_succ]
    go_wp2_with fail
    go_ret2
    exact ⟨⟨_, _, rfl, by omega, by omega, by omega, by omega⟩, Kp.out.below hr0⟩
  · have hx' : (x == 0) = false := by simpa using hx
    clear hx
    go_wp2_with fail
    refine (pick_any 250 r _ _ R2.out (by omega)).mono ?_
    rintro e w3 ⟨y, rfl, y0, y1', hr', hk⟩
    have y1 := y1' (by omega)
    have K3 := Lib.hid (K2.out.trans (hk.mono s2))
    have s3 : w.heap.size ≤ w3.heap.size := K3.out.size
    have R3 := Lib.hid hr'
    clear hk hr' y1' K2 R2
    go_wp2_with fail
    refine (pick_any 5 r _ _ R3.out (by omega)).mono ?_
    rintro e w4 ⟨z, rfl, z0, z1', hr', hk⟩
    have z1 := z1' (by omega)
    have K4 := Lib.hid (K3.out.trans (hk.mono s3))
    clear hk hr' z1' K3 R3
    go_wp2_with fail
    go_ret2
    exact ⟨⟨_, _, rfl, by omega, by omega, by omega, by omega⟩, K4.out.below hr0⟩

set_option maxRecDepth 100000 in
set_option maxHeartbeats 8000000 in
theorem dball_any (a : Option Addr) (len cap : Nat) (w : World) (hc : CodeIn w a len cap) (hcap : cap ≤ maxLen) :
    Calls Try.prog 8 #[.slice a len cap] w fun e w' => (∃ n p : Int, e = .returned (.tuple #[.int .i64 n, .int .i64 p]) ∧ -1 ≤ n ∧ n ≤ 1000 ∧ -1 ≤ p ∧ p ≤ 5) ∧ Below w.heap.size w w' := by
  go_enter Try.func8, Try.ntmps8
  go_wp2_with fail
  refine (open_any a len cap _ hc hcap).mono ?_
  rintro e w1 ⟨r, rfl, hr0, hr', hb'⟩
  have hr1 := Lib.hid hr'
  have D1 := Lib.hid hb'
  clear hr' hb'
  go_wp2_with fail
  refine (pick_any 8 r 0 _ hr1.out (by omega)).mono ?_
  rintro e w2 ⟨x, rfl, x0, x1', hr', hk⟩
  have x1 := x1' (by omega)
  have s1 := D1.out.size
  have K2 := Lib.hid ((Keep.of_below D1.out).trans (hk.mono s1))
  have R2 := Lib.hid hr'
  have s2 : w.heap.size ≤ w2.heap.size := K2.out.size
  clear hk D1 hr1 hr' x1'
  by_cases hx : x = 0
  · subst hx
    go_upto_region 3 with fail
    refine wp_region_held_drew (S := fun _ => True) (by kernel_rfl) trivial (fun _ => ?_)
    replace R2 := Lib.hid R2.out.drewB
    replace K2 := Lib.hid (K2.out.trans (Keep.of_below (Below.drew (Below.refl _ _))))
    have R := R2
    have Kp := K2
    have hrl := R.out.lt
    clear R2 K2
    generalize w2.drew = v0 at R Kp hrl ⊢
    try simp only [Act.put, List.setIfInBounds_toArray, List.set_cons_zero, List.set_cons_succ]
    refine wpAnyH_take (i := 1) (oi := ⟨some 11, _, _, _, _, _⟩) (v := ?_) rfl (by kernel_rfl) (by kernel_rfl) (by kernel_rfl) (fun _ _ _ h => h) (Or.inl ⟨by rfl, ?_⟩) trivial ?_
    rotate_left 1
    · intro w hSw; (try dsimp only at hSw); go_simp; (try rw [if_pos (by omega)]); try (with_reducible rfl)
    try simp only [Act.put, List.setIfInBounds_toArray, List.set_cons_zero, List.set_cons_succ]
    refine wpAnyH_take (i := 6) (oi := ⟨some 16, _, _, _, _, _⟩) (v := ?_) rfl (by kernel_rfl) (by kernel_rfl) (by kernel_rfl) (fun _ _ _ h => h) (Or.inl ⟨by rfl, ?_⟩) trivial ?_
    rotate_left 1
    · intro w hSw; (try dsimp only at hSw); go_simp; (try rw [if_pos (by omega)]); try (with_reducible rfl)
    try simp only [Act.put, List.setIfInBounds_toArray, List.set_cons_zero, List.set_cons_succ]
    refine wpAnyH_ready (rs := [0, 2, 5]) (by kernel_rfl) (by simp) ?_
    refine AllReadyH.cons (o := ⟨some 10, _, _, _, _, _⟩) rfl (fun K hK => ?_) ?_
    · go_simp
      refine hK.out _ _ trivial (fun _ => ?_)
      clear hK K
      have HA := Lib.hid (heap_alloc_new v0 (.cells #[.int .i64 (-1), .int .i64 0, .int .i64 199, .int .i64 200] 3))
      replace R := Lib.hid (R.out.alloc (.cells #[.int .i64 (-1), .int .i64 0, .int .i64 199, .int .i64 200] 3))
      have hsz := Kp.out.size
      replace Kp := Lib.hid (Kp.out.alloc hsz (.cells #[.int .i64 (-1), .int .i64 0, .int .i64 199, .int .i64 200] 3))
      have hrA : r < v0.heap.size := by have := hrl; omega
      clear hsz
      obtain ⟨bA, hbA⟩ : ∃ c, Hid (v0.heap.size = c) := ⟨_, Lib.hid rfl⟩
      rw [hbA.out] at HA hrA ⊢
      have hrl : r < (v0.alloc (.cells #[.int .i64 (-1), .int .i64 0, .int .i64 199, .int .i64 200] 3)).heap.size := R.out.lt
      generalize World.alloc v0 (.cells #[.int .i64 (-1), .int .i64 0, .int .i64 199, .int .i64 200] 3) = v1 at R Kp hrl HA  ⊢
      clear hbA
      try simp only [Act.put, List.setIfInBounds_toArray, List.set_cons_zero, List.set_cons_succ]
      refine wpAnyH_ready (rs := [2, 5]) (by kernel_rfl) (by simp) ?_
      refine AllReadyH.cons (o := ⟨some 12, _, _, _, _, _⟩) rfl (fun K hK => ?_) ?_
      · go_simp
        with_reducible refine (pick_any 4 r _ _ R.out (by omega)).mono ?_
        rintro e v2 ⟨ya, rfl, y0a, y1a, hr', hk⟩
        go_wp2_with fail
        refine hK.out _ _ trivial (fun _ => ?_)
        clear hK K
        replace y1a := y1a (by omega)
        obtain ⟨ja, rfl⟩ : ∃ j : Nat, ya = j := ⟨ya.toNat, by omega⟩
        have hja : ja < 4 := by omega
        replace R := Lib.hid hr'
        replace HA := Lib.hid ((hk.block _ (ltHb HA.out) (by omega)).trans HA.out)
        replace Kp := Lib.hid (Kp.out.trans (hk.mono Kp.out.size))
        have hrl : r < v2.heap.size := R.out.lt
        clear hr' hk y0a y1a
        try simp only [Act.put, List.setIfInBounds_toArray, List.set_cons_zero, List.set_cons_succ]
        refine wpAnyH_take (i := 3) (oi := ⟨some 13, _, _, _, _, _⟩) (v := ?_) rfl (by kernel_rfl) (by kernel_rfl) (by kernel_rfl) (fun _ _ _ h => h) (Or.inl ⟨by rfl, ?_⟩) trivial ?_
        rotate_left 1
        · intro w hSw; (try dsimp only at hSw); go_simp; (try rw [if_pos (by omega)]); try (with_reducible rfl)
        try simp only [Act.put, List.setIfInBounds_toArray, List.set_cons_zero, List.set_cons_succ]
        refine wpAnyH_ready (rs := [4, 5, 7]) (by kernel_rfl) (by simp) ?_
        refine AllReadyH.cons (o := ⟨some 14, _, _, _, _, _⟩) rfl (fun K hK => ?_) ?_
        · obtain ⟨zA, hzA, z0A, z1A⟩ := lit4a HA.out hja
          go_simp
          refine hK.out _ _ trivial (fun _ => ?_)
          clear hK K hzA
          try simp only [Act.put, List.setIfInBounds_toArray, List.set_cons_zero, List.set_cons_succ]
          refine wpAnyH_ready (rs := [5, 7]) (by kernel_rfl) (by simp) ?_
          refine AllReadyH.cons (o := ⟨some 15, _, _, _, _, _⟩) rfl (fun K hK => ?_) ?_
          · go_simp
            refine hK.out _ _ trivial (fun _ => ?_)
            clear hK K
            have HB := Lib.hid (heap_alloc_new v2 (.cells #[.int .i64 (-1), .int .i64 4, .int .i64 5, .int .i64 0] 3))
            replace R := Lib.hid (R.out.alloc (.cells #[.int .i64 (-1), .int .i64 4, .int .i64 5, .int .i64 0] 3))
            have hsz := Kp.out.size
            replace HA := Lib.hid ((Below.heap_alloc v2 (.cells #[.int .i64 (-1), .int .i64 4, .int .i64 5, .int .i64 0] 3) _ (ltHb HA.out)).trans HA.out)
            replace Kp := Lib.hid (Kp.out.alloc hsz (.cells #[.int .i64 (-1), .int .i64 4, .int .i64 5, .int .i64 0] 3))
            have hrB : r < v2.heap.size := by have := hrl; omega
            clear hsz
            obtain ⟨bB, hbB⟩ : ∃ c, Hid (v2.heap.size = c) := ⟨_, Lib.hid rfl⟩
            rw [hbB.out] at HB hrB ⊢
            have hrl : r < (v2.alloc (.cells #[.int .i64 (-1), .int .i64 4, .int .i64 5, .int .i64 0] 3)).heap.size := R.out.lt
            generalize World.alloc v2 (.cells #[.int .i64 (-1), .int .i64 4, .int .i64 5, .int .i64 0] 3) = v3 at R Kp hrl HB HA ⊢
            clear hbB
            try simp only [Act.put, List.setIfInBounds_toArray, List.set_cons_zero, List.set_cons_succ]
            refine wpAnyH_ready (rs := [7]) (by kernel_rfl) (by simp) ?_
            refine AllReadyH.cons (o := ⟨some 17, _, _, _, _, _⟩) rfl (fun K hK => ?_) AllReadyH.nil
            go_simp
            with_reducible refine (pick_any 4 r _ _ R.out (by omega)).mono ?_
            rintro e v4 ⟨yb, rfl, y0b, y1b, hr', hk⟩
            go_wp2_with fail
            refine hK.out _ _ trivial (fun _ => ?_)
            clear hK K
            replace y1b := y1b (by omega)
            obtain ⟨jb, rfl⟩ : ∃ j : Nat, yb = j := ⟨yb.toNat, by omega⟩
            have hjb : jb < 4 := by omega
            replace R := Lib.hid hr'
            replace HA := Lib.hid ((hk.block _ (ltHb HA.out) (by omega)).trans HA.out)
            replace HB := Lib.hid ((hk.block _ (ltHb HB.out) (by omega)).trans HB.out)
            replace Kp := Lib.hid (Kp.out.trans (hk.mono Kp.out.size))
            have hrl : r < v4.heap.size := R.out.lt
            clear hr' hk y0b y1b
            try simp only [Act.put, List.setIfInBounds_toArray, List.set_cons_zero, List.set_cons_succ]
            refine wpAnyH_take (i := 8) (oi := ⟨some 18, _, _, _, _, _⟩) (v := ?_) rfl (by kernel_rfl) (by kernel_rfl) (by kernel_rfl) (fun _ _ _ h => h) (Or.inl ⟨by rfl, ?_⟩) trivial ?_
            rotate_left 1
            · intro w hSw; (try dsimp only at hSw); go_simp; (try rw [if_pos (by omega)]); try (with_reducible rfl)
            try simp only [Act.put, List.setIfInBounds_toArray, List.set_cons_zero, List.set_cons_succ]
            refine wpAnyH_take (i := 10) (oi := ⟨some 2, _, _, _, _, _⟩) (v := ?_) rfl (by kernel_rfl) (by kernel_rfl) (by kernel_rfl) (fun _ _ _ h => h) (Or.inl ⟨by rfl, ?_⟩) trivial ?_
            rotate_left 1
            · intro w hSw; (try dsimp only at hSw); go_simp; (try rw [if_pos (by omega)]); try (with_reducible rfl)
            try simp only [Act.put, List.setIfInBounds_toArray, List.set_cons_zero, List.set_cons_succ]
            refine wpAnyH_ready (rs := [9]) (by kernel_rfl) (by simp) ?_
            refine AllReadyH.cons (o := ⟨some 19, _, _, _, _, _⟩) rfl (fun K hK => ?_) AllReadyH.nil
            obtain ⟨zB, hzB, z0B, z1B⟩ := lit4b HB.out hjb
            go_simp
            refine hK.out _ _ trivial (fun _ => ?_)
            clear hK K hzB
            try simp only [Act.put, List.setIfInBounds_toArray, List.set_cons_zero, List.set_cons_succ]
            refine wpAnyH_take (i := 11) (oi := ⟨some 3, _, _, _, _, _⟩) (v := ?_) rfl (by kernel_rfl) (by kernel_rfl) (by kernel_rfl) (fun _ _ _ h => h) (Or.inl ⟨by rfl, ?_⟩) trivial ?_
            rotate_left 1
            · intro w hSw; (try dsimp only at hSw); go_simp; (try rw [if_pos (by omega)]); try (with_reducible rfl)
            try simp only [Act.put, List.setIfInBounds_toArray, List.set_cons_zero, List.set_cons_succ]
            refine wpAnyH_done (by kernel_rfl) ?_ _
            try simp only [Act.put, List.setIfInBounds_toArray, List.set_cons_zero, List.set_cons_succ]
            go_wp2_with fail
            go_ret2
            exact ⟨⟨_, _, rfl, by omega, by omega, by omega, by omega⟩, Kp.out.below hr0⟩
          refine AllReadyH.cons (o := ⟨some 17, _, _, _, _, _⟩) rfl (fun K hK => ?_) AllReadyH.nil
          go_simp
          with_reducible refine (pick_any 4 r _ _ R.out (by omega)).mono ?_
          rintro e v3 ⟨yb, rfl, y0b, y1b, hr', hk⟩
          go_wp2_with fail
          refine hK.out _ _ trivial (fun _ => ?_)
          clear hK K
          replace y1b := y1b (by omega)
          obtain ⟨jb, rfl⟩ : ∃ j : Nat, yb = j := ⟨yb.toNat, by omega⟩
          have hjb : jb < 4 := by omega
          replace R := Lib.hid hr'
          replace HA := Lib.hid ((hk.block _ (ltHb HA.out) (by omega)).trans HA.out)
          replace Kp := Lib.hid (Kp.out.trans (hk.mono Kp.out.size))
          have hrl : r < v3.heap.size := R.out.lt
          clear hr' hk y0b y1b
          try simp only [Act.put, List.setIfInBounds_toArray, List.set_cons_zero, List.set_cons_succ]
          refine wpAnyH_take (i := 10) (oi := ⟨some 2, _, _, _, _, _⟩) (v := ?_) rfl (by kernel_rfl) (by kernel_rfl) (by kernel_rfl) (fun _ _ _ h => h) (Or.inl ⟨by rfl, ?_⟩) trivial ?_
          rotate_left 1
          · intro w hSw; (try dsimp only at hSw); go_simp; (try rw [if_pos (by omega)]); try (with_reducible rfl)
          try simp only [Act.put, List.setIfInBounds_toArray, List.set_cons_zero, List.set_cons_succ]
          refine wpAnyH_ready (rs := [5]) (by kernel_rfl) (by simp) ?_
          refine AllReadyH.cons (o := ⟨some 15, _, _, _, _, _⟩) rfl (fun K hK => ?_) AllReadyH.nil
          go_simp
          refine hK.out _ _ trivial (fun _ => ?_)
          clear hK K
          have HB := Lib.hid (heap_alloc_new v3 (.cells #[.int .i64 (-1), .int .i64 4, .int .i64 5, .int .i64 0] 3))
          replace R := Lib.hid (R.out.alloc (.cells #[.int .i64 (-1), .int .i64 4, .int .i64 5, .int .i64 0] 3))
          have hsz := Kp.out.size
          replace HA := Lib.hid ((Below.heap_alloc v3 (.cells #[.int .i64 (-1), .int .i64 4, .int .i64 5, .int .i64 0] 3) _ (ltHb HA.out)).trans HA.out)
          replace Kp := Lib.hid (Kp.out.alloc hsz (.cells #[.int .i64 (-1), .int .i64 4, .int .i64 5, .int .i64 0] 3))
          have hrB : r < v3.heap.size := by have := hrl; omega
          clear hsz
          obtain ⟨bB, hbB⟩ : ∃ c, Hid (v3.heap.size = c) := ⟨_, Lib.hid rfl⟩
          rw [hbB.out] at HB hrB ⊢
          have hrl : r < (v3.alloc (.cells #[.int .i64 (-1), .int .i64 4, .int .i64 5, .int .i64 0] 3)).heap.size := R.out.lt
          generalize World.alloc v3 (.cells #[.int .i64 (-1), .int .i64 4, .int .i64 5, .int .i64 0] 3) = v4 at R Kp hrl HB HA ⊢
          clear hbB
          try simp only [Act.put, List.setIfInBounds_toArray, List.set_cons_zero, List.set_cons_succ]
          refine wpAnyH_take (i := 8) (oi := ⟨some 18, _, _, _, _, _⟩) (v := ?_) rfl (by kernel_rfl) (by kernel_rfl) (by kernel_rfl) (fun _ _ _ h => h) (Or.inl ⟨by rfl, ?_⟩) trivial ?_
          rotate_left 1
          · intro w hSw; (try dsimp only at hSw); go_simp; (try rw [if_pos (by omega)]); try (with_reducible rfl)
          try simp only [Act.put, List.setIfInBounds_toArray, List.set_cons_zero, List.set_cons_succ]
          refine wpAnyH_ready (rs := [9]) (by kernel_rfl) (by simp) ?_
          refine AllReadyH.cons (o := ⟨some 19, _, _, _, _, _⟩) rfl (fun K hK => ?_) AllReadyH.nil
          obtain ⟨zB, hzB, z0B, z1B⟩ := lit4b HB.out hjb
          go_simp
          refine hK.out _ _ trivial (fun _ => ?_)
          clear hK K hzB
          try simp only [Act.put, List.setIfInBounds_toArray, List.set_cons_zero, List.set_cons_succ]
          refine wpAnyH_take (i := 11) (oi := ⟨some 3, _, _, _, _, _⟩) (v := ?_) rfl (by kernel_rfl) (by kernel_rfl) (by kernel_rfl) (fun _ _ _ h => h) (Or.inl ⟨by rfl, ?_⟩) trivial ?_
          rotate_left 1
          · intro w hSw; (try dsimp only at hSw); go_simp; (try rw [if_pos (by omega)]); try (with_reducible rfl)
          try simp only [Act.put, List.setIfInBounds_toArray, List.set_cons_zero, List.set_cons_succ]
          refine wpAnyH_done (by kernel_rfl) ?_ _
          try simp only [Act.put, List.setIfInBounds_toArray, List.set_cons_zero, List.set_cons_succ]
          go_wp2_with fail
          go_ret2
          exact ⟨⟨_, _, rfl, by omega, by omega, by omega, by omega⟩, Kp.out.below hr0⟩
        refine AllReadyH.cons (o := ⟨some 15, _, _, _, _, _⟩) rfl (fun K hK => ?_) ?_
        · go_simp
          refine hK.out _ _ trivial (fun _ => ?_)
          clear hK K
          have HB := Lib.hid (heap_alloc_new v2 (.cells #[.int .i64 (-1), .int .i64 4, .int .i64 5, .int .i64 0] 3))
          replace R := Lib.hid (R.out.alloc (.cells #[.int .i64 (-1), .int .i64 4, .int .i64 5, .int .i64 0] 3))
          have hsz := Kp.out.size
          replace HA := Lib.hid ((Below.heap_alloc v2 (.cells #[.int .i64 (-1), .int .i64 4, .int .i64 5, .int .i64 0] 3) _ (ltHb HA.out)).trans HA.out)
          replace Kp := Lib.hid (Kp.out.alloc hsz (.cells #[.int .i64 (-1), .int .i64 4, .int .i64 5, .int .i64 0] 3))
          have hrB : r < v2.heap.size := by have := hrl; omega
          clear hsz
          obtain ⟨bB, hbB⟩ : ∃ c, Hid (v2.heap.size = c) := ⟨_, Lib.hid rfl⟩
          rw [hbB.out] at HB hrB ⊢
          have hrl : r < (v2.alloc (.cells #[.int .i64 (-1), .int .i64 4, .int .i64 5, .int .i64 0] 3)).heap.size := R.out.lt
          generalize World.alloc v2 (.cells #[.int .i64 (-1), .int .i64 4, .int .i64 5, .int .i64 0] 3) = v3 at R Kp hrl HB HA ⊢
          clear hbB
          try simp only [Act.put, List.setIfInBounds_toArray, List.set_cons_zero, List.set_cons_succ]
          refine wpAnyH_ready (rs := [4, 7]) (by kernel_rfl) (by simp) ?_
          refine AllReadyH.cons (o := ⟨some 14, _, _, _, _, _⟩) rfl (fun K hK => ?_) ?_
          · obtain ⟨zA, hzA, z0A, z1A⟩ := lit4a HA.out hja
            go_simp
            refine hK.out _ _ trivial (fun _ => ?_)
            clear hK K hzA
            try simp only [Act.put, List.setIfInBounds_toArray, List.set_cons_zero, List.set_cons_succ]
            refine wpAnyH_ready (rs := [7]) (by kernel_rfl) (by simp) ?_
            refine AllReadyH.cons (o := ⟨some 17, _, _, _, _, _⟩) rfl (fun K hK => ?_) AllReadyH.nil
            go_simp
            with_reducible refine (pick_any 4 r _ _ R.out (by omega)).mono ?_
            rintro e v4 ⟨yb, rfl, y0b, y1b, hr', hk⟩
            go_wp2_with fail
            refine hK.out _ _ trivial (fun _ => ?_)
            clear hK K
            replace y1b := y1b (by omega)
            obtain ⟨jb, rfl⟩ : ∃ j : Nat, yb = j := ⟨yb.toNat, by omega⟩
            have hjb : jb < 4 := by omega
            replace R := Lib.hid hr'
            replace HA := Lib.hid ((hk.block _ (ltHb HA.out) (by omega)).trans HA.out)
            replace HB := Lib.hid ((hk.block _ (ltHb HB.out) (by omega)).trans HB.out)
            replace Kp := Lib.hid (Kp.out.trans (hk.mono Kp.out.size))
            have hrl : r < v4.heap.size := R.out.lt
            clear hr' hk y0b y1b
            try simp only [Act.put, List.setIfInBounds_toArray, List.set_cons_zero, List.set_cons_succ]
            refine wpAnyH_take (i := 8) (oi := ⟨some 18, _, _, _, _, _⟩) (v := ?_) rfl (by kernel_rfl) (by kernel_rfl) (by kernel_rfl) (fun _ _ _ h => h) (Or.inl ⟨by rfl, ?_⟩) trivial ?_
            rotate_left 1
            · intro w hSw; (try dsimp only at hSw); go_simp; (try rw [if_pos (by omega)]); try (with_reducible rfl)
            try simp only [Act.put, List.setIfInBounds_toArray, List.set_cons_zero, List.set_cons_succ]
            refine wpAnyH_take (i := 10) (oi := ⟨some 2, _, _, _, _, _⟩) (v := ?_) rfl (by kernel_rfl) (by kernel_rfl) (by kernel_rfl) (fun _ _ _ h => h) (Or.inl ⟨by rfl, ?_⟩) trivial ?_
            rotate_left 1
            · intro w hSw; (try dsimp only at hSw); go_simp; (try rw [if_pos (by omega)]); try (with_reducible rfl)
            try simp only [Act.put, List.setIfInBounds_toArray, List.set_cons_zero, List.set_cons_succ]
            refine wpAnyH_ready (rs := [9]) (by kernel_rfl) (by simp) ?_
            refine AllReadyH.cons (o := ⟨some 19, _, _, _, _, _⟩) rfl (fun K hK => ?_) AllReadyH.nil
            obtain ⟨zB, hzB, z0B, z1B⟩ := lit4b HB.out hjb
            go_simp
            refine hK.out _ _ trivial (fun _ => ?_)
            clear hK K hzB
            try simp only [Act.put, List.setIfInBounds_toArray, List.set_cons_zero, List.set_cons_succ]
            refine wpAnyH_take (i := 11) (oi := ⟨some 3, _, _, _, _, _⟩) (v := ?_) rfl (by kernel_rfl) (by kernel_rfl) (by kernel_rfl) (fun _ _ _ h => h) (Or.inl ⟨by rfl, ?_⟩) trivial ?_
            rotate_left 1
            · intro w hSw; (try dsimp only at hSw); go_simp; (try rw [if_pos (by omega)]); try (with_reducible rfl)
            try simp only [Act.put, List.setIfInBounds_toArray, List.set_cons_zero, List.set_cons_succ]
            refine wpAnyH_done (by kernel_rfl) ?_ _
            try simp only [Act.put, List.setIfInBounds_toArray, List.set_cons_zero, List.set_cons_succ]
            go_wp2_with fail
            go_ret2
            exact ⟨⟨_, _, rfl, by omega, by omega, by omega, by omega⟩, Kp.out.below hr0⟩
          refine AllReadyH.cons (o := ⟨some 17, _, _, _, _, _⟩) rfl (fun K hK => ?_) AllReadyH.nil
          go_simp
          with_reducible refine (pick_any 4 r _ _ R.out (by omega)).mono ?_
          rintro e v4 ⟨yb, rfl, y0b, y1b, hr', hk⟩
          go_wp2_with fail
          refine hK.out _ _ trivial (fun _ => ?_)
          clear hK K
          replace y1b := y1b (by omega)
          obtain ⟨jb, rfl⟩ : ∃ j : Nat, yb = j := ⟨yb.toNat, by omega⟩
          have hjb : jb < 4 := by omega
          replace R := Lib.hid hr'
          replace HA := Lib.hid ((hk.block _ (ltHb HA.out) (by omega)).trans HA.out)
          replace HB := Lib.hid ((hk.block _ (ltHb HB.out) (by omega)).trans HB.out)
          replace Kp := Lib.hid (Kp.out.trans (hk.mono Kp.out.size))
          have hrl : r < v4.heap.size := R.out.lt
          clear hr' hk y0b y1b
          try simp only [Act.put, List.setIfInBounds_toArray, List.set_cons_zero, List.set_cons_succ]
          refine wpAnyH_take (i := 8) (oi := ⟨some 18, _, _, _, _, _⟩) (v := ?_) rfl (by kernel_rfl) (by kernel_rfl) (by kernel_rfl) (fun _ _ _ h => h) (Or.inl ⟨by rfl, ?_⟩) trivial ?_
          rotate_left 1
          · intro w hSw; (try dsimp only at hSw); go_simp; (try rw [if_pos (by omega)]); try (with_reducible rfl)
          try simp only [Act.put, List.setIfInBounds_toArray, List.set_cons_zero, List.set_cons_succ]
          refine wpAnyH_ready (rs := [4, 9]) (by kernel_rfl) (by simp) ?_
          refine AllReadyH.cons (o := ⟨some 14, _, _, _, _, _⟩) rfl (fun K hK => ?_) ?_
          · obtain ⟨zA, hzA, z0A, z1A⟩ := lit4a HA.out hja
            go_simp
            refine hK.out _ _ trivial (fun _ => ?_)
            clear hK K hzA
            try simp only [Act.put, List.setIfInBounds_toArray, List.set_cons_zero, List.set_cons_succ]
            refine wpAnyH_take (i := 10) (oi := ⟨some 2, _, _, _, _, _⟩) (v := ?_) rfl (by kernel_rfl) (by kernel_rfl) (by kernel_rfl) (fun _ _ _ h => h) (Or.inl ⟨by rfl, ?_⟩) trivial ?_
            rotate_left 1
            · intro w hSw; (try dsimp only at hSw); go_simp; (try rw [if_pos (by omega)]); try (with_reducible rfl)
            try simp only [Act.put, List.setIfInBounds_toArray, List.set_cons_zero, List.set_cons_succ]
            refine wpAnyH_ready (rs := [9]) (by kernel_rfl) (by simp) ?_
            refine AllReadyH.cons (o := ⟨some 19, _, _, _, _, _⟩) rfl (fun K hK => ?_) AllReadyH.nil
            obtain ⟨zB, hzB, z0B, z1B⟩ := lit4b HB.out hjb
            go_simp
            refine hK.out _ _ trivial (fun _ => ?_)
            clear hK K hzB
            try simp only [Act.put, List.setIfInBounds_toArray, List.set_cons_zero, List.set_cons_succ]
            refine wpAnyH_take (i := 11) (oi := ⟨some 3, _, _, _, _, _⟩) (v := ?_) rfl (by kernel_rfl) (by kernel_rfl) (by kernel_rfl) (fun _ _ _ h => h) (Or.inl ⟨by rfl, ?_⟩) trivial ?_
            rotate_left 1
            · intro w hSw; (try dsimp only at hSw); go_simp; (try rw [if_pos (by omega)]); try (with_reducible rfl)
            try simp only [Act.put, List.setIfInBounds_toArray, List.set_cons_zero, List.set_cons_succ]
            refine wpAnyH_done (by kernel_rfl) ?_ _
            try simp only [Act.put, List.setIfInBounds_toArray, List.set_cons_zero, List.set_cons_succ]
            go_wp2_with fail
            go_ret2
            exact ⟨⟨_, _, rfl, by omega, by omega, by omega, by omega⟩, Kp.out.below hr0⟩
          refine AllReadyH.cons (o := ⟨some 19, _, _, _, _, _⟩) rfl (fun K hK => ?_) AllReadyH.nil
          obtain ⟨zB, hzB, z0B, z1B⟩ := lit4b HB.out hjb
          go_simp
          refine hK.out _ _ trivial (fun _ => ?_)
          clear hK K hzB
          try simp only [Act.put, List.setIfInBounds_toArray, List.set_cons_zero, List.set_cons_succ]
          refine wpAnyH_ready (rs := [4]) (by kernel_rfl) (by simp) ?_
          refine AllReadyH.cons (o := ⟨some 14, _, _, _, _, _⟩) rfl (fun K hK => ?_) AllReadyH.nil
          obtain ⟨zA, hzA, z0A, z1A⟩ := lit4a HA.out hja
          go_simp
          refine hK.out _ _ trivial (fun _ => ?_)
          clear hK K hzA
          try simp only [Act.put, List.setIfInBounds_toArray, List.set_cons_zero, List.set_cons_succ]
          refine wpAnyH_take (i := 10) (oi := ⟨some 2, _, _, _, _, _⟩) (v := ?_) rfl (by kernel_rfl) (by kernel_rfl) (by kernel_rfl) (fun _ _ _ h => h) (Or.inl ⟨by rfl, ?_⟩) trivial ?_
          rotate_left 1
          · intro w hSw; (try dsimp only at hSw); go_simp; (try rw [if_pos (by omega)]); try (with_reducible rfl)
          try simp only [Act.put, List.setIfInBounds_toArray, List.set_cons_zero, List.set_cons_succ]
          refine wpAnyH_take (i := 11) (oi := ⟨some 3, _, _, _, _, _⟩) (v := ?_) rfl (by kernel_rfl) (by kernel_rfl) (by kernel_rfl) (fun _ _ _ h => h) (Or.inl ⟨by rfl, ?_⟩) trivial ?_
          rotate_left 1
          · intro w hSw; (try dsimp only at hSw); go_simp; (try rw [if_pos (by omega)]); try (with_reducible rfl)
          try simp only [Act.put, List.setIfInBounds_toArray, List.set_cons_zero, List.set_cons_succ]
          refine wpAnyH_done (by kernel_rfl) ?_ _
          try simp only [Act.put, List.setIfInBounds_toArray, List.set_cons_zero, List.set_cons_succ]
          go_wp2_with fail
          go_ret2
          exact ⟨⟨_, _, rfl, by omega, by omega, by omega, by omega⟩, Kp.out.below hr0⟩
        refine AllReadyH.cons (o := ⟨some 17, _, _, _, _, _⟩) rfl (fun K hK => ?_) AllReadyH.nil
        go_simp
        with_reducible refine (pick_any 4 r _ _ R.out (by omega)).mono ?_
        rintro e v3 ⟨yb, rfl, y0b, y1b, hr', hk⟩
        go_wp2_with fail
        refine hK.out _ _ trivial (fun _ => ?_)
        clear hK K
        replace y1b := y1b (by omega)
        obtain ⟨jb, rfl⟩ : ∃ j : Nat, yb = j := ⟨yb.toNat, by omega⟩
        have hjb : jb < 4 := by omega
        replace R := Lib.hid hr'
        replace HA := Lib.hid ((hk.block _ (ltHb HA.out) (by omega)).trans HA.out)
        replace Kp := Lib.hid (Kp.out.trans (hk.mono Kp.out.size))
        have hrl : r < v3.heap.size := R.out.lt
        clear hr' hk y0b y1b
        try simp only [Act.put, List.setIfInBounds_toArray, List.set_cons_zero, List.set_cons_succ]
        refine wpAnyH_ready (rs := [4, 5]) (by kernel_rfl) (by simp) ?_
        refine AllReadyH.cons (o := ⟨some 14, _, _, _, _, _⟩) rfl (fun K hK => ?_) ?_
        · obtain ⟨zA, hzA, z0A, z1A⟩ := lit4a HA.out hja
          go_simp
          refine hK.out _ _ trivial (fun _ => ?_)
          clear hK K hzA
          try simp only [Act.put, List.setIfInBounds_toArray, List.set_cons_zero, List.set_cons_succ]
          refine wpAnyH_take (i := 10) (oi := ⟨some 2, _, _, _, _, _⟩) (v := ?_) rfl (by kernel_rfl) (by kernel_rfl) (by kernel_rfl) (fun _ _ _ h => h) (Or.inl ⟨by rfl, ?_⟩) trivial ?_
          rotate_left 1
          · intro w hSw; (try dsimp only at hSw); go_simp; (try rw [if_pos (by omega)]); try (with_reducible rfl)
          try simp only [Act.put, List.setIfInBounds_toArray, List.set_cons_zero, List.set_cons_succ]
          refine wpAnyH_ready (rs := [5]) (by kernel_rfl) (by simp) ?_
          refine AllReadyH.cons (o := ⟨some 15, _, _, _, _, _⟩) rfl (fun K hK => ?_) AllReadyH.nil
          go_simp
          refine hK.out _ _ trivial (fun _ => ?_)
          clear hK K
          have HB := Lib.hid (heap_alloc_new v3 (.cells #[.int .i64 (-1), .int .i64 4, .int .i64 5, .int .i64 0] 3))
          replace R := Lib.hid (R.out.alloc (.cells #[.int .i64 (-1), .int .i64 4, .int .i64 5, .int .i64 0] 3))
          have hsz := Kp.out.size
          replace HA := Lib.hid ((Below.heap_alloc v3 (.cells #[.int .i64 (-1), .int .i64 4, .int .i64 5, .int .i64 0] 3) _ (ltHb HA.out)).trans HA.out)
          replace Kp := Lib.hid (Kp.out.alloc hsz (.cells #[.int .i64 (-1), .int .i64 4, .int .i64 5, .int .i64 0] 3))
          have hrB : r < v3.heap.size := by have := hrl; omega
          clear hsz
          obtain ⟨bB, hbB⟩ : ∃ c, Hid (v3.heap.size = c) := ⟨_, Lib.hid rfl⟩
          rw [hbB.out] at HB hrB ⊢
          have hrl : r < (v3.alloc (.cells #[.int .i64 (-1), .int .i64 4, .int .i64 5, .int .i64 0] 3)).heap.size := R.out.lt
          generalize World.alloc v3 (.cells #[.int .i64 (-1), .int .i64 4, .int .i64 5, .int .i64 0] 3) = v4 at R Kp hrl HB HA ⊢
          clear hbB
          try simp only [Act.put, List.setIfInBounds_toArray, List.set_cons_zero, List.set_cons_succ]
          refine wpAnyH_take (i := 8) (oi := ⟨some 18, _, _, _, _, _⟩) (v := ?_) rfl (by kernel_rfl) (by kernel_rfl) (by kernel_rfl) (fun _ _ _ h => h) (Or.inl ⟨by rfl, ?_⟩) trivial ?_
          rotate_left 1
          · intro w hSw; (try dsimp only at hSw); go_simp; (try rw [if_pos (by omega)]); try (with_reducible rfl)
          try simp only [Act.put, List.setIfInBounds_toArray, List.set_cons_zero, List.set_cons_succ]
          refine wpAnyH_ready (rs := [9]) (by kernel_rfl) (by simp) ?_
          refine AllReadyH.cons (o := ⟨some 19, _, _, _, _, _⟩) rfl (fun K hK => ?_) AllReadyH.nil
          obtain ⟨zB, hzB, z0B, z1B⟩ := lit4b HB.out hjb
          go_simp
          refine hK.out _ _ trivial (fun _ => ?_)
          clear hK K hzB
          try simp only [Act.put, List.setIfInBounds_toArray, List.set_cons_zero, List.set_cons_succ]
          refine wpAnyH_take (i := 11) (oi := ⟨some 3, _, _, _, _, _⟩) (v := ?_) rfl (by kernel_rfl) (by kernel_rfl) (by kernel_rfl) (fun _ _ _ h => h) (Or.inl ⟨by rfl, ?_⟩) trivial ?_
          rotate_left 1
          · intro w hSw; (try dsimp only at hSw); go_simp; (try rw [if_pos (by omega)]); try (with_reducible rfl)
          try simp only [Act.put, List.setIfInBounds_toArray, List.set_cons_zero, List.set_cons_succ]
          refine wpAnyH_done (by kernel_rfl) ?_ _
          try simp only [Act.put, List.setIfInBounds_toArray, List.set_cons_zero, List.set_cons_succ]
          go_wp2_with fail
          go_ret2
          exact ⟨⟨_, _, rfl, by omega, by omega, by omega, by omega⟩, Kp.out.below hr0⟩
        refine AllReadyH.cons (o := ⟨some 15, _, _, _, _, _⟩) rfl (fun K hK => ?_) AllReadyH.nil
        go_simp
        refine hK.out _ _ trivial (fun _ => ?_)
        clear hK K
        have HB := Lib.hid (heap_alloc_new v3 (.cells #[.int .i64 (-1), .int .i64 4, .int .i64 5, .int .i64 0] 3))
        replace R := Lib.hid (R.out.alloc (.cells #[.int .i64 (-1), .int .i64 4, .int .i64 5, .int .i64 0] 3))
        have hsz := Kp.out.size
        replace HA := Lib.hid ((Below.heap_alloc v3 (.cells #[.int .i64 (-1), .int .i64 4, .int .i64 5, .int .i64 0] 3) _ (ltHb HA.out)).trans HA.out)
        replace Kp := Lib.hid (Kp.out.alloc hsz (.cells #[.int .i64 (-1), .int .i64 4, .int .i64 5, .int .i64 0] 3))
        have hrB : r < v3.heap.size := by have := hrl; omega
        clear hsz
        obtain ⟨bB, hbB⟩ : ∃ c, Hid (v3.heap.size = c) := ⟨_, Lib.hid rfl⟩
        rw [hbB.out] at HB hrB ⊢
        have hrl : r < (v3.alloc (.cells #[.int .i64 (-1), .int .i64 4, .int .i64 5, .int .i64 0] 3)).heap.size := R.out.lt
        generalize World.alloc v3 (.cells #[.int .i64 (-1), .int .i64 4, .int .i64 5, .int .i64 0] 3) = v4 at R Kp hrl HB HA ⊢
        clear hbB
        try simp only [Act.put, List.setIfInBounds_toArray, List.set_cons_zero, List.set_cons_succ]
        refine wpAnyH_take (i := 8) (oi := ⟨some 18, _, _, _, _, _⟩) (v := ?_) rfl (by kernel_rfl) (by kernel_rfl) (by kernel_rfl) (fun _ _ _ h => h) (Or.inl ⟨by rfl, ?_⟩) trivial ?_
        rotate_left 1
        · intro w hSw; (try dsimp only at hSw); go_simp; (try rw [if_pos (by omega)]); try (with_reducible rfl)
        try simp only [Act.put, List.setIfInBounds_toArray, List.set_cons_zero, List.set_cons_succ]
        refine wpAnyH_ready (rs := [4, 9]) (by kernel_rfl) (by simp) ?_
        refine AllReadyH.cons (o := ⟨some 14, _, _, _, _, _⟩) rfl (fun K hK => ?_) ?_
        · obtain ⟨zA, hzA, z0A, z1A⟩ := lit4a HA.out hja
          go_simp
          refine hK.out _ _ trivial (fun _ => ?_)
          clear hK K hzA
          try simp only [Act.put, List.setIfInBounds_toArray, List.set_cons_zero, List.set_cons_succ]
          refine wpAnyH_take (i := 10) (oi := ⟨some 2, _, _, _, _, _⟩) (v := ?_) rfl (by kernel_rfl) (by kernel_rfl) (by kernel_rfl) (fun _ _ _ h => h) (Or.inl ⟨by rfl, ?_⟩) trivial ?_
          rotate_left 1
          · intro w hSw; (try dsimp only at hSw); go_simp; (try rw [if_pos (by omega)]); try (with_reducible rfl)
          try simp only [Act.put, List.setIfInBounds_toArray, List.set_cons_zero, List.set_cons_succ]
          refine wpAnyH_ready (rs := [9]) (by kernel_rfl) (by simp) ?_
          refine AllReadyH.cons (o := ⟨some 19, _, _, _, _, _⟩) rfl (fun K hK => ?_) AllReadyH.nil
          obtain ⟨zB, hzB, z0B, z1B⟩ := lit4b HB.out hjb
          go_simp
          refine hK.out _ _ trivial (fun _ => ?_)
          clear hK K hzB
          try simp only [Act.put, List.setIfInBounds_toArray, List.set_cons_zero, List.set_cons_succ]
          refine wpAnyH_take (i := 11) (oi := ⟨some 3, _, _, _, _, _⟩) (v := ?_) rfl (by kernel_rfl) (by kernel_rfl) (by kernel_rfl) (fun _ _ _ h => h) (Or.inl ⟨by rfl, ?_⟩) trivial ?_
          rotate_left 1
          · intro w hSw; (try dsimp only at hSw); go_simp; (try rw [if_pos (by omega)]); try (with_reducible rfl)
          try simp only [Act.put, List.setIfInBounds_toArray, List.set_cons_zero, List.set_cons_succ]
          refine wpAnyH_done (by kernel_rfl) ?_ _
          try simp only [Act.put, List.setIfInBounds_toArray, List.set_cons_zero, List.set_cons_succ]
          go_wp2_with fail
          go_ret2
          exact ⟨⟨_, _, rfl, by omega, by omega, by omega, by omega⟩, Kp.out.below hr0⟩
        refine AllReadyH.cons (o := ⟨some 19, _, _, _, _, _⟩) rfl (fun K hK => ?_) AllReadyH.nil
        obtain ⟨zB, hzB, z0B, z1B⟩ := lit4b HB.out hjb
        go_simp
        refine hK.out _ _ trivial (fun _ => ?_)
        clear hK K hzB
        try simp only [Act.put, List.setIfInBounds_toArray, List.set_cons_zero, List.set_cons_succ]
        refine wpAnyH_ready (rs := [4]) (by kernel_rfl) (by simp) ?_
        refine AllReadyH.cons (o := ⟨some 14, _, _, _, _, _⟩) rfl (fun K hK => ?_) AllReadyH.nil
        obtain ⟨zA, hzA, z0A, z1A⟩ := lit4a HA.out hja
        go_simp
        refine hK.out _ _ trivial (fun _ => ?_)
        clear hK K hzA
        try simp only [Act.put, List.setIfInBounds_toArray, List.set_cons_zero, List.set_cons_succ]
        refine wpAnyH_take (i := 10) (oi := ⟨some 2, _, _, _, _, _⟩) (v := ?_) rfl (by kernel_rfl) (by kernel_rfl) (by kernel_rfl) (fun _ _ _ h => h) (Or.inl ⟨by rfl, ?_⟩) trivial ?_
        rotate_left 1
        · intro w hSw; (try dsimp only at hSw); go_simp; (try rw [if_pos (by omega)]); try (with_reducible rfl)
        try simp only [Act.put, List.setIfInBounds_toArray, List.set_cons_zero, List.set_cons_succ]
        refine wpAnyH_take (i := 11) (oi := ⟨some 3, _, _, _, _, _⟩) (v := ?_) rfl (by kernel_rfl) (by kernel_rfl) (by kernel_rfl) (fun _ _ _ h => h) (Or.inl ⟨by rfl, ?_⟩) trivial ?_
        rotate_left 1
        · intro w hSw; (try dsimp only at hSw); go_simp; (try rw [if_pos (by omega)]); try (with_reducible rfl)
        try simp only [Act.put, List.setIfInBounds_toArray, List.set_cons_zero, List.set_cons_succ]
        refine wpAnyH_done (by kernel_rfl) ?_ _
        try simp only [Act.put, List.setIfInBounds_toArray, List.set_cons_zero, List.set_cons_succ]
        go_wp2_with fail
        go_ret2
        exact ⟨⟨_, _, rfl, by omega, by omega, by omega, by omega⟩, Kp.out.below hr0⟩
      refine AllReadyH.cons (o := ⟨some 15, _, _, _, _, _⟩) rfl (fun K hK => ?_) AllReadyH.nil
      go_simp
      refine hK.out _ _ trivial (fun _ => ?_)
      clear hK K
      have HB := Lib.hid (heap_alloc_new v1 (.cells #[.int .i64 (-1), .int .i64 4, .int .i64 5, .int .i64 0] 3))
      replace R := Lib.hid (R.out.alloc (.cells #[.int .i64 (-1), .int .i64 4, .int .i64 5, .int .i64 0] 3))
      have hsz := Kp.out.size
      replace HA := Lib.hid ((Below.heap_alloc v1 (.cells #[.int .i64 (-1), .int .i64 4, .int .i64 5, .int .i64 0] 3) _ (ltHb HA.out)).trans HA.out)
      replace Kp := Lib.hid (Kp.out.alloc hsz (.cells #[.int .i64 (-1), .int .i64 4, .int .i64 5, .int .i64 0] 3))
      have hrB : r < v1.heap.size := by have := hrl; omega
      clear hsz
      obtain ⟨bB, hbB⟩ : ∃ c, Hid (v1.heap.size = c) := ⟨_, Lib.hid rfl⟩
      rw [hbB.out] at HB hrB ⊢
      have hrl : r < (v1.alloc (.cells #[.int .i64 (-1), .int .i64 4, .int .i64 5, .int .i64 0] 3)).heap.size := R.out.lt
      generalize World.alloc v1 (.cells #[.int .i64 (-1), .int .i64 4, .int .i64 5, .int .i64 0] 3) = v2 at R Kp hrl HB HA ⊢
      clear hbB
      try simp only [Act.put, List.setIfInBounds_toArray, List.set_cons_zero, List.set_cons_succ]
      refine wpAnyH_ready (rs := [2]) (by kernel_rfl) (by simp) ?_
      refine AllReadyH.cons (o := ⟨some 12, _, _, _, _, _⟩) rfl (fun K hK => ?_) AllReadyH.nil
      go_simp
      with_reducible refine (pick_any 4 r _ _ R.out (by omega)).mono ?_
      rintro e v3 ⟨ya, rfl, y0a, y1a, hr', hk⟩
      go_wp2_with fail
      refine hK.out _ _ trivial (fun _ => ?_)
      clear hK K
      replace y1a := y1a (by omega)
      obtain ⟨ja, rfl⟩ : ∃ j : Nat, ya = j := ⟨ya.toNat, by omega⟩
      have hja : ja < 4 := by omega
      replace R := Lib.hid hr'
      replace HA := Lib.hid ((hk.block _ (ltHb HA.out) (by omega)).trans HA.out)
      replace HB := Lib.hid ((hk.block _ (ltHb HB.out) (by omega)).trans HB.out)
      replace Kp := Lib.hid (Kp.out.trans (hk.mono Kp.out.size))
      have hrl : r < v3.heap.size := R.out.lt
      clear hr' hk y0a y1a
      try simp only [Act.put, List.setIfInBounds_toArray, List.set_cons_zero, List.set_cons_succ]
      refine wpAnyH_take (i := 3) (oi := ⟨some 13, _, _, _, _, _⟩) (v := ?_) rfl (by kernel_rfl) (by kernel_rfl) (by kernel_rfl) (fun _ _ _ h => h) (Or.inl ⟨by rfl, ?_⟩) trivial ?_
      rotate_left 1
      · intro w hSw; (try dsimp only at hSw); go_simp; (try rw [if_pos (by omega)]); try (with_reducible rfl)
      try simp only [Act.put, List.setIfInBounds_toArray, List.set_cons_zero, List.set_cons_succ]
      refine wpAnyH_ready (rs := [4, 7]) (by kernel_rfl) (by simp) ?_
      refine AllReadyH.cons (o := ⟨some 14, _, _, _, _, _⟩) rfl (fun K hK => ?_) ?_
      · obtain ⟨zA, hzA, z0A, z1A⟩ := lit4a HA.out hja
        go_simp
        refine hK.out _ _ trivial (fun _ => ?_)
        clear hK K hzA
        try simp only [Act.put, List.setIfInBounds_toArray, List.set_cons_zero, List.set_cons_succ]
        refine wpAnyH_ready (rs := [7]) (by kernel_rfl) (by simp) ?_
        refine AllReadyH.cons (o := ⟨some 17, _, _, _, _, _⟩) rfl (fun K hK => ?_) AllReadyH.nil
        go_simp
        with_reducible refine (pick_any 4 r _ _ R.out (by omega)).mono ?_
        rintro e v4 ⟨yb, rfl, y0b, y1b, hr', hk⟩
        go_wp2_with fail
        refine hK.out _ _ trivial (fun _ => ?_)
        clear hK K
        replace y1b := y1b (by omega)
        obtain ⟨jb, rfl⟩ : ∃ j : Nat, yb = j := ⟨yb.toNat, by omega⟩
        have hjb : jb < 4 := by omega
        replace R := Lib.hid hr'
        replace HA := Lib.hid ((hk.block _ (ltHb HA.out) (by omega)).trans HA.out)
        replace HB := Lib.hid ((hk.block _ (ltHb HB.out) (by omega)).trans HB.out)
        replace Kp := Lib.hid (Kp.out.trans (hk.mono Kp.out.size))
        have hrl : r < v4.heap.size := R.out.lt
        clear hr' hk y0b y1b
        try simp only [Act.put, List.setIfInBounds_toArray, List.set_cons_zero, List.set_cons_succ]
        refine wpAnyH_take (i := 8) (oi := ⟨some 18, _, _, _, _, _⟩) (v := ?_) rfl (by kernel_rfl) (by kernel_rfl) (by kernel_rfl) (fun _ _ _ h => h) (Or.inl ⟨by rfl, ?_⟩) trivial ?_
        rotate_left 1
        · intro w hSw; (try dsimp only at hSw); go_simp; (try rw [if_pos (by omega)]); try (with_reducible rfl)
        try simp only [Act.put, List.setIfInBounds_toArray, List.set_cons_zero, List.set_cons_succ]
        refine wpAnyH_take (i := 10) (oi := ⟨some 2, _, _, _, _, _⟩) (v := ?_) rfl (by kernel_rfl) (by kernel_rfl) (by kernel_rfl) (fun _ _ _ h => h) (Or.inl ⟨by rfl, ?_⟩) trivial ?_
        rotate_left 1
        · intro w hSw; (try dsimp only at hSw); go_simp; (try rw [if_pos (by omega)]); try (with_reducible rfl)
        try simp only [Act.put, List.setIfInBounds_toArray, List.set_cons_zero, List.set_cons_succ]
        refine wpAnyH_ready (rs := [9]) (by kernel_rfl) (by simp) ?_
        refine AllReadyH.cons (o := ⟨some 19, _, _, _, _, _⟩) rfl (fun K hK => ?_) AllReadyH.nil
        obtain ⟨zB, hzB, z0B, z1B⟩ := lit4b HB.out hjb
        go_simp
        refine hK.out _ _ trivial (fun _ => ?_)
        clear hK K hzB
        try simp only [Act.put, List.setIfInBounds_toArray, List.set_cons_zero, List.set_cons_succ]
        refine wpAnyH_take (i := 11) (oi := ⟨some 3, _, _, _, _, _⟩) (v := ?_) rfl (by kernel_rfl) (by kernel_rfl) (by kernel_rfl) (fun _ _ _ h => h) (Or.inl ⟨by rfl, ?_⟩) trivial ?_
        rotate_left 1
        · intro w hSw; (try dsimp only at hSw); go_simp; (try rw [if_pos (by omega)]); try (with_reducible rfl)
        try simp only [Act.put, List.setIfInBounds_toArray, List.set_cons_zero, List.set_cons_succ]
        refine wpAnyH_done (by kernel_rfl) ?_ _
        try simp only [Act.put, List.setIfInBounds_toArray, List.set_cons_zero, List.set_cons_succ]
        go_wp2_with fail
        go_ret2
        exact ⟨⟨_, _, rfl, by omega, by omega, by omega, by omega⟩, Kp.out.below hr0⟩
      refine AllReadyH.cons (o := ⟨some 17, _, _, _, _, _⟩) rfl (fun K hK => ?_) AllReadyH.nil
      go_simp
      with_reducible refine (pick_any 4 r _ _ R.out (by omega)).mono ?_
      rintro e v4 ⟨yb, rfl, y0b, y1b, hr', hk⟩
      go_wp2_with fail
      refine hK.out _ _ trivial (fun _ => ?_)
      clear hK K
      replace y1b := y1b (by omega)
      obtain ⟨jb, rfl⟩ : ∃ j : Nat, yb = j := ⟨yb.toNat, by omega⟩
      have hjb : jb < 4 := by omega
      replace R := Lib.hid hr'
      replace HA := Lib.hid ((hk.block _ (ltHb HA.out) (by omega)).trans HA.out)
      replace HB := Lib.hid ((hk.block _ (ltHb HB.out) (by omega)).trans HB.out)
      replace Kp := Lib.hid (Kp.out.trans (hk.mono Kp.out.size))
      have hrl : r < v4.heap.size := R.out.lt
      clear hr' hk y0b y1b
      try simp only [Act.put, List.setIfInBounds_toArray, List.set_cons_zero, List.set_cons_succ]
      refine wpAnyH_take (i := 8) (oi := ⟨some 18, _, _, _, _, _⟩) (v := ?_) rfl (by kernel_rfl) (by kernel_rfl) (by kernel_rfl) (fun _ _ _ h => h) (Or.inl ⟨by rfl, ?_⟩) trivial ?_
      rotate_left 1
      · intro w hSw; (try dsimp only at hSw); go_simp; (try rw [if_pos (by omega)]); try (with_reducible rfl)
      try simp only [Act.put, List.setIfInBounds_toArray, List.set_cons_zero, List.set_cons_succ]
      refine wpAnyH_ready (rs := [4, 9]) (by kernel_rfl) (by simp) ?_
      refine AllReadyH.cons (o := ⟨some 14, _, _, _, _, _⟩) rfl (fun K hK => ?_) ?_
      · obtain ⟨zA, hzA, z0A, z1A⟩ := lit4a HA.out hja
        go_simp
        refine hK.out _ _ trivial (fun _ => ?_)
        clear hK K hzA
        try simp only [Act.put, List.setIfInBounds_toArray, List.set_cons_zero, List.set_cons_succ]
        refine wpAnyH_take (i := 10) (oi := ⟨some 2, _, _, _, _, _⟩) (v := ?_) rfl (by kernel_rfl) (by kernel_rfl) (by kernel_rfl) (fun _ _ _ h => h) (Or.inl ⟨by rfl, ?_⟩) trivial ?_
        rotate_left 1
        · intro w hSw; (try dsimp only at hSw); go_simp; (try rw [if_pos (by omega)]); try (with_reducible rfl)
        try simp only [Act.put, List.setIfInBounds_toArray, List.set_cons_zero, List.set_cons_succ]
        refine wpAnyH_ready (rs := [9]) (by kernel_rfl) (by simp) ?_
        refine AllReadyH.cons (o := ⟨some 19, _, _, _, _, _⟩) rfl (fun K hK => ?_) AllReadyH.nil
        obtain ⟨zB, hzB, z0B, z1B⟩ := lit4b HB.out hjb
        go_simp
        refine hK.out _ _ trivial (fun _ => ?_)
        clear hK K hzB
        try simp only [Act.put, List.setIfInBounds_toArray, List.set_cons_zero, List.set_cons_succ]
        refine wpAnyH_take (i := 11) (oi := ⟨some 3, _, _, _, _, _⟩) (v := ?_) rfl (by kernel_rfl) (by kernel_rfl) (by kernel_rfl) (fun _ _ _ h => h) (Or.inl ⟨by rfl, ?_⟩) trivial ?_
        rotate_left 1
        · intro w hSw; (try dsimp only at hSw); go_simp; (try rw [if_pos (by omega)]); try (with_reducible rfl)
        try simp only [Act.put, List.setIfInBounds_toArray, List.set_cons_zero, List.set_cons_succ]
        refine wpAnyH_done (by kernel_rfl) ?_ _
        try simp only [Act.put, List.setIfInBounds_toArray, List.set_cons_zero, List.set_cons_succ]
        go_wp2_with fail
        go_ret2
        exact ⟨⟨_, _, rfl, by omega, by omega, by omega, by omega⟩, Kp.out.below hr0⟩
      refine AllReadyH.cons (o := ⟨some 19, _, _, _, _, _⟩) rfl (fun K hK => ?_) AllReadyH.nil
      obtain ⟨zB, hzB, z0B, z1B⟩ := lit4b HB.out hjb
      go_simp
      refine hK.out _ _ trivial (fun _ => ?_)
      clear hK K hzB
      try simp only [Act.put, List.setIfInBounds_toArray, List.set_cons_zero, List.set_cons_succ]
      refine wpAnyH_ready (rs := [4]) (by kernel_rfl) (by simp) ?_
      refine AllReadyH.cons (o := ⟨some 14, _, _, _, _, _⟩) rfl (fun K hK => ?_) AllReadyH.nil
      obtain ⟨zA, hzA, z0A, z1A⟩ := lit4a HA.out hja
      go_simp
      refine hK.out _ _ trivial (fun _ => ?_)
      clear hK K hzA
      try simp only [Act.put, List.setIfInBounds_toArray, List.set_cons_zero, List.set_cons_succ]
      refine wpAnyH_take (i := 10) (oi := ⟨some 2, _, _, _, _, _⟩) (v := ?_) rfl (by kernel_rfl) (by kernel_rfl) (by kernel_rfl) (fun _ _ _ h => h) (Or.inl ⟨by rfl, ?_⟩) trivial ?_
      rotate_left 1
      · intro w hSw; (try dsimp only at hSw); go_simp; (try rw [if_pos (by omega)]); try (with_reducible rfl)
      try simp only [Act.put, List.setIfInBounds_toArray, List.set_cons_zero, List.set_cons_succ]
      refine wpAnyH_take (i := 11) (oi := ⟨some 3, _, _, _, _, _⟩) (v := ?_) rfl (by kernel_rfl) (by kernel_rfl) (by kernel_rfl) (fun _ _ _ h => h) (Or.inl ⟨by rfl, ?_⟩) trivial ?_
      rotate_left 1
      · intro w hSw; (try dsimp only at hSw); go_simp; (try rw [if_pos (by omega)]); try (with_reducible rfl)
      try simp only [Act.put, List.setIfInBounds_toArray, List.set_cons_zero, List.set_cons_succ]
      refine wpAnyH_done (by kernel_rfl) ?_ _
      try simp only [Act.put, List.setIfInBounds_toArray, List.set_cons_zero, List.set_cons_succ]
      go_wp2_with fail
      go_ret2
      exact ⟨⟨_, _, rfl, by omega, by omega, by omega, by omega⟩, Kp.out.below hr0⟩
    refine AllReadyH.cons (o := ⟨some 12, _, _, _, _, _⟩) rfl (fun K hK => ?_) ?_
    · go_simp
      with_reducible refine (pick_any 4 r _ _ R.out (by omega)).mono ?_
      rintro e v1 ⟨ya, rfl, y0a, y1a, hr', hk⟩
      go_wp2_with fail
      refine hK.out _ _ trivial (fun _ => ?_)
      clear hK K
      replace y1a := y1a (by omega)
      obtain ⟨ja, rfl⟩ : ∃ j : Nat, ya = j := ⟨ya.toNat, by omega⟩
      have hja : ja < 4 := by omega
      replace R := Lib.hid hr'
      replace Kp := Lib.hid (Kp.out.trans (hk.mono Kp.out.size))
      have hrl : r < v1.heap.size := R.out.lt
      clear hr' hk y0a y1a
      try simp only [Act.put, List.setIfInBounds_toArray, List.set_cons_zero, List.set_cons_succ]
      refine wpAnyH_ready (rs := [0, 5, 7]) (by kernel_rfl) (by simp) ?_
      refine AllReadyH.cons (o := ⟨some 10, _, _, _, _, _⟩) rfl (fun K hK => ?_) ?_
      · go_simp
        refine hK.out _ _ trivial (fun _ => ?_)
        clear hK K
        have HA := Lib.hid (heap_alloc_new v1 (.cells #[.int .i64 (-1), .int .i64 0, .int .i64 199, .int .i64 200] 3))
        replace R := Lib.hid (R.out.alloc (.cells #[.int .i64 (-1), .int .i64 0, .int .i64 199, .int .i64 200] 3))
        have hsz := Kp.out.size
        replace Kp := Lib.hid (Kp.out.alloc hsz (.cells #[.int .i64 (-1), .int .i64 0, .int .i64 199, .int .i64 200] 3))
        have hrA : r < v1.heap.size := by have := hrl; omega
        clear hsz
        obtain ⟨bA, hbA⟩ : ∃ c, Hid (v1.heap.size = c) := ⟨_, Lib.hid rfl⟩
        rw [hbA.out] at HA hrA ⊢
        have hrl : r < (v1.alloc (.cells #[.int .i64 (-1), .int .i64 0, .int .i64 199, .int .i64 200] 3)).heap.size := R.out.lt
        generalize World.alloc v1 (.cells #[.int .i64 (-1), .int .i64 0, .int .i64 199, .int .i64 200] 3) = v2 at R Kp hrl HA  ⊢
        clear hbA
        try simp only [Act.put, List.setIfInBounds_toArray, List.set_cons_zero, List.set_cons_succ]
        refine wpAnyH_take (i := 3) (oi := ⟨some 13, _, _, _, _, _⟩) (v := ?_) rfl (by kernel_rfl) (by kernel_rfl) (by kernel_rfl) (fun _ _ _ h => h) (Or.inl ⟨by rfl, ?_⟩) trivial ?_
        rotate_left 1
        · intro w hSw; (try dsimp only at hSw); go_simp; (try rw [if_pos (by omega)]); try (with_reducible rfl)
        try simp only [Act.put, List.setIfInBounds_toArray, List.set_cons_zero, List.set_cons_succ]
        refine wpAnyH_ready (rs := [4, 5, 7]) (by kernel_rfl) (by simp) ?_
        refine AllReadyH.cons (o := ⟨some 14, _, _, _, _, _⟩) rfl (fun K hK => ?_) ?_
        · obtain ⟨zA, hzA, z0A, z1A⟩ := lit4a HA.out hja
          go_simp
          refine hK.out _ _ trivial (fun _ => ?_)
          clear hK K hzA
          try simp only [Act.put, List.setIfInBounds_toArray, List.set_cons_zero, List.set_cons_succ]
          refine wpAnyH_ready (rs := [5, 7]) (by kernel_rfl) (by simp) ?_
          refine AllReadyH.cons (o := ⟨some 15, _, _, _, _, _⟩) rfl (fun K hK => ?_) ?_
          · go_simp
            refine hK.out _ _ trivial (fun _ => ?_)
            clear hK K
            have HB := Lib.hid (heap_alloc_new v2 (.cells #[.int .i64 (-1), .int .i64 4, .int .i64 5, .int .i64 0] 3))
            replace R := Lib.hid (R.out.alloc (.cells #[.int .i64 (-1), .int .i64 4, .int .i64 5, .int .i64 0] 3))
            have hsz := Kp.out.size
            replace HA := Lib.hid ((Below.heap_alloc v2 (.cells #[.int .i64 (-1), .int .i64 4, .int .i64 5, .int .i64 0] 3) _ (ltHb HA.out)).trans HA.out)
            replace Kp := Lib.hid (Kp.out.alloc hsz (.cells #[.int .i64 (-1), .int .i64 4, .int .i64 5, .int .i64 0] 3))
            have hrB : r < v2.heap.size := by have := hrl; omega
            clear hsz
            obtain ⟨bB, hbB⟩ : ∃ c, Hid (v2.heap.size = c) := ⟨_, Lib.hid rfl⟩
            rw [hbB.out] at HB hrB ⊢
            have hrl : r < (v2.alloc (.cells #[.int .i64 (-1), .int .i64 4, .int .i64 5, .int .i64 0] 3)).heap.size := R.out.lt
            generalize World.alloc v2 (.cells #[.int .i64 (-1), .int .i64 4, .int .i64 5, .int .i64 0] 3) = v3 at R Kp hrl HB HA ⊢
            clear hbB
            try simp only [Act.put, List.setIfInBounds_toArray, List.set_cons_zero, List.set_cons_succ]
            refine wpAnyH_ready (rs := [7]) (by kernel_rfl) (by simp) ?_
            refine AllReadyH.cons (o := ⟨some 17, _, _, _, _, _⟩) rfl (fun K hK => ?_) AllReadyH.nil
            go_simp
            with_reducible refine (pick_any 4 r _ _ R.out (by omega)).mono ?_
            rintro e v4 ⟨yb, rfl, y0b, y1b, hr', hk⟩
            go_wp2_with fail
            refine hK.out _ _ trivial (fun _ => ?_)
            clear hK K
            replace y1b := y1b (by omega)
            obtain ⟨jb, rfl⟩ : ∃ j : Nat, yb = j := ⟨yb.toNat, by omega⟩
            have hjb : jb < 4 := by omega
            replace R := Lib.hid hr'
            replace HA := Lib.hid ((hk.block _ (ltHb HA.out) (by omega)).trans HA.out)
            replace HB := Lib.hid ((hk.block _ (ltHb HB.out) (by omega)).trans HB.out)
            replace Kp := Lib.hid (Kp.out.trans (hk.mono Kp.out.size))
            have hrl : r < v4.heap.size := R.out.lt
            clear hr' hk y0b y1b
            try simp only [Act.put, List.setIfInBounds_toArray, List.set_cons_zero, List.set_cons_succ]
            refine wpAnyH_take (i := 8) (oi := ⟨some 18, _, _, _, _, _⟩) (v := ?_) rfl (by kernel_rfl) (by kernel_rfl) (by kernel_rfl) (fun _ _ _ h => h) (Or.inl ⟨by rfl, ?_⟩) trivial ?_
            rotate_left 1
            · intro w hSw; (try dsimp only at hSw); go_simp; (try rw [if_pos (by omega)]); try (with_reducible rfl)
            try simp only [Act.put, List.setIfInBounds_toArray, List.set_cons_zero, List.set_cons_succ]
            refine wpAnyH_take (i := 10) (oi := ⟨some 2, _, _, _, _, _⟩) (v := ?_) rfl (by kernel_rfl) (by kernel_rfl) (by kernel_rfl) (fun _ _ _ h => h) (Or.inl ⟨by rfl, ?_⟩) trivial ?_
            rotate_left 1
            · intro w hSw; (try dsimp only at hSw); go_simp; (try rw [if_pos (by omega)]); try (with_reducible rfl)
            try simp only [Act.put, List.setIfInBounds_toArray, List.set_cons_zero, List.set_cons_succ]
            refine wpAnyH_ready (rs := [9]) (by kernel_rfl) (by simp) ?_
            refine AllReadyH.cons (o := ⟨some 19, _, _, _, _, _⟩) rfl (fun K hK => ?_) AllReadyH.nil
            obtain ⟨zB, hzB, z0B, z1B⟩ := lit4b HB.out hjb
            go_simp
            refine hK.out _ _ trivial (fun _ => ?_)
            clear hK K hzB
            try simp only [Act.put, List.setIfInBounds_toArray, List.set_cons_zero, List.set_cons_succ]
            refine wpAnyH_take (i := 11) (oi := ⟨some 3, _, _, _, _, _⟩) (v := ?_) rfl (by kernel_rfl) (by kernel_rfl) (by kernel_rfl) (fun _ _ _ h => h) (Or.inl ⟨by rfl, ?_⟩) trivial ?_
            rotate_left 1
            · intro w hSw; (try dsimp only at hSw); go_simp; (try rw [if_pos (by omega)]); try (with_reducible rfl)
            try simp only [Act.put, List.setIfInBounds_toArray, List.set_cons_zero, List.set_cons_succ]
            refine wpAnyH_done (by kernel_rfl) ?_ _
            try simp only [Act.put, List.setIfInBounds_toArray, List.set_cons_zero, List.set_cons_succ]
            go_wp2_with fail
            go_ret2
            exact ⟨⟨_, _, rfl, by omega, by omega, by omega, by omega⟩, Kp.out.below hr0⟩
          refine AllReadyH.cons (o := ⟨some 17, _, _, _, _, _⟩) rfl (fun K hK => ?_) AllReadyH.nil
          go_simp
          with_reducible refine (pick_any 4 r _ _ R.out (by omega)).mono ?_
          rintro e v3 ⟨yb, rfl, y0b, y1b, hr', hk⟩
          go_wp2_with fail
          refine hK.out _ _ trivial (fun _ => ?_)
          clear hK K
          replace y1b := y1b (by omega)
          obtain ⟨jb, rfl⟩ : ∃ j : Nat, yb = j := ⟨yb.toNat, by omega⟩
          have hjb : jb < 4 := by omega
          replace R := Lib.hid hr'
          replace HA := Lib.hid ((hk.block _ (ltHb HA.out) (by omega)).trans HA.out)
          replace Kp := Lib.hid (Kp.out.trans (hk.mono Kp.out.size))
          have hrl : r < v3.heap.size := R.out.lt
          clear hr' hk y0b y1b
          try simp only [Act.put, List.setIfInBounds_toArray, List.set_cons_zero, List.set_cons_succ]
          refine wpAnyH_take (i := 10) (oi := ⟨some 2, _, _, _, _, _⟩) (v := ?_) rfl (by kernel_rfl) (by kernel_rfl) (by kernel_rfl) (fun _ _ _ h => h) (Or.inl ⟨by rfl, ?_⟩) trivial ?_
          rotate_left 1
          · intro w hSw; (try dsimp only at hSw); go_simp; (try rw [if_pos (by omega)]); try (with_reducible rfl)
          try simp only [Act.put, List.setIfInBounds_toArray, List.set_cons_zero, List.set_cons_succ]
          refine wpAnyH_ready (rs := [5]) (by kernel_rfl) (by simp) ?_
          refine AllReadyH.cons (o := ⟨some 15, _, _, _, _, _⟩) rfl (fun K hK => ?_) AllReadyH.nil
          go_simp
          refine hK.out _ _ trivial (fun _ => ?_)
          clear hK K
          have HB := Lib.hid (heap_alloc_new v3 (.cells #[.int .i64 (-1), .int .i64 4, .int .i64 5, .int .i64 0] 3))
          replace R := Lib.hid (R.out.alloc (.cells #[.int .i64 (-1), .int .i64 4, .int .i64 5, .int .i64 0] 3))
          have hsz := Kp.out.size
          replace HA := Lib.hid ((Below.heap_alloc v3 (.cells #[.int .i64 (-1), .int .i64 4, .int .i64 5, .int .i64 0] 3) _ (ltHb HA.out)).trans HA.out)
          replace Kp := Lib.hid (Kp.out.alloc hsz (.cells #[.int .i64 (-1), .int .i64 4, .int .i64 5, .int .i64 0] 3))
          have hrB : r < v3.heap.size := by have := hrl; omega
          clear hsz
          obtain ⟨bB, hbB⟩ : ∃ c, Hid (v3.heap.size = c) := ⟨_, Lib.hid rfl⟩
          rw [hbB.out] at HB hrB ⊢
          have hrl : r < (v3.alloc (.cells #[.int .i64 (-1), .int .i64 4, .int .i64 5, .int .i64 0] 3)).heap.size := R.out.lt
          generalize World.alloc v3 (.cells #[.int .i64 (-1), .int .i64 4, .int .i64 5, .int .i64 0] 3) = v4 at R Kp hrl HB HA ⊢
          clear hbB
          try simp only [Act.put, List.setIfInBounds_toArray, List.set_cons_zero, List.set_cons_succ]
          refine wpAnyH_take (i := 8) (oi := ⟨some 18, _, _, _, _, _⟩) (v := ?_) rfl (by kernel_rfl) (by kernel_rfl) (by kernel_rfl) (fun _ _ _ h => h) (Or.inl ⟨by rfl, ?_⟩) trivial ?_
          rotate_left 1
          · intro w hSw; (try dsimp only at hSw); go_simp; (try rw [if_pos (by omega)]); try (with_reducible rfl)
          try simp only [Act.put, List.setIfInBounds_toArray, List.set_cons_zero, List.set_cons_succ]
          refine wpAnyH_ready (rs := [9]) (by kernel_rfl) (by simp) ?_
          refine AllReadyH.cons (o := ⟨some 19, _, _, _, _, _⟩) rfl (fun K hK => ?_) AllReadyH.nil
          obtain ⟨zB, hzB, z0B, z1B⟩ := lit4b HB.out hjb
          go_simp
          refine hK.out _ _ trivial (fun _ => ?_)
          clear hK K hzB
          try simp only [Act.put, List.setIfInBounds_toArray, List.set_cons_zero, List.set_cons_succ]
          refine wpAnyH_take (i := 11) (oi := ⟨some 3, _, _, _, _, _⟩) (v := ?_) rfl (by kernel_rfl) (by kernel_rfl) (by kernel_rfl) (fun _ _ _ h => h) (Or.inl ⟨by rfl, ?_⟩) trivial ?_
          rotate_left 1
          · intro w hSw; (try dsimp only at hSw); go_simp; (try rw [if_pos (by omega)]); try (with_reducible rfl)
          try simp only [Act.put, List.setIfInBounds_toArray, List.set_cons_zero, List.set_cons_succ]
          refine wpAnyH_done (by kernel_rfl) ?_ _
          try simp only [Act.put, List.setIfInBounds_toArray, List.set_cons_zero, List.set_cons_succ]
          go_wp2_with fail
          go_ret2
          exact ⟨⟨_, _, rfl, by omega, by omega, by omega, by omega⟩, Kp.out.below hr0⟩
        refine AllReadyH.cons (o := ⟨some 15, _, _, _, _, _⟩) rfl (fun K hK => ?_) ?_
        · go_simp
          refine hK.out _ _ trivial (fun _ => ?_)
          clear hK K
          have HB := Lib.hid (heap_alloc_new v2 (.cells #[.int .i64 (-1), .int .i64 4, .int .i64 5, .int .i64 0] 3))
          replace R := Lib.hid (R.out.alloc (.cells #[.int .i64 (-1), .int .i64 4, .int .i64 5, .int .i64 0] 3))
          have hsz := Kp.out.size
          replace HA := Lib.hid ((Below.heap_alloc v2 (.cells #[.int .i64 (-1), .int .i64 4, .int .i64 5, .int .i64 0] 3) _ (ltHb HA.out)).trans HA.out)
          replace Kp := Lib.hid (Kp.out.alloc hsz (.cells #[.int .i64 (-1), .int .i64 4, .int .i64 5, .int .i64 0] 3))
          have hrB : r < v2.heap.size := by have := hrl; omega
          clear hsz
          obtain ⟨bB, hbB⟩ : ∃ c, Hid (v2.heap.size = c) := ⟨_, Lib.hid rfl⟩
          rw [hbB.out] at HB hrB ⊢
          have hrl : r < (v2.alloc (.cells #[.int .i64 (-1), .int .i64 4, .int .i64 5, .int .i64 0] 3)).heap.size := R.out.lt
          generalize World.alloc v2 (.cells #[.int .i64 (-1), .int .i64 4, .int .i64 5, .int .i64 0] 3) = v3 at R Kp hrl HB HA ⊢
          clear hbB
          try simp only [Act.put, List.setIfInBounds_toArray, List.set_cons_zero, List.set_cons_succ]
          refine wpAnyH_ready (rs := [4, 7]) (by kernel_rfl) (by simp) ?_
          refine AllReadyH.cons (o := ⟨some 14, _, _, _, _, _⟩) rfl (fun K hK => ?_) ?_
          · obtain ⟨zA, hzA, z0A, z1A⟩ := lit4a HA.out hja
            go_simp
            refine hK.out _ _ trivial (fun _ => ?_)
            clear hK K hzA
            try simp only [Act.put, List.setIfInBounds_toArray, List.set_cons_zero, List.set_cons_succ]
            refine wpAnyH_ready (rs := [7]) (by kernel_rfl) (by simp) ?_
            refine AllReadyH.cons (o := ⟨some 17, _, _, _, _, _⟩) rfl (fun K hK => ?_) AllReadyH.nil
            go_simp
            with_reducible refine (pick_any 4 r _ _ R.out (by omega)).mono ?_
            rintro e v4 ⟨yb, rfl, y0b, y1b, hr', hk⟩
            go_wp2_with fail
            refine hK.out _ _ trivial (fun _ => ?_)
            clear hK K
            replace y1b := y1b (by omega)
            obtain ⟨jb, rfl⟩ : ∃ j : Nat, yb = j := ⟨yb.toNat, by omega⟩
            have hjb : jb < 4 := by omega
            replace R := Lib.hid hr'
            replace HA := Lib.hid ((hk.block _ (ltHb HA.out) (by omega)).trans HA.out)
            replace HB := Lib.hid ((hk.block _ (ltHb HB.out) (by omega)).trans HB.out)
            replace Kp := Lib.hid (Kp.out.trans (hk.mono Kp.out.size))
            have hrl : r < v4.heap.size := R.out.lt
            clear hr' hk y0b y1b
            try simp only [Act.put, List.setIfInBounds_toArray, List.set_cons_zero, List.set_cons_succ]
            refine wpAnyH_take (i := 8) (oi := ⟨some 18, _, _, _, _, _⟩) (v := ?_) rfl (by kernel_rfl) (by kernel_rfl) (by kernel_rfl) (fun _ _ _ h => h) (Or.inl ⟨by rfl, ?_⟩) trivial ?_
            rotate_left 1
            · intro w hSw; (try dsimp only at hSw); go_simp; (try rw [if_pos (by omega)]); try (with_reducible rfl)
            try simp only [Act.put, List.setIfInBounds_toArray, List.set_cons_zero, List.set_cons_succ]
            refine wpAnyH_take (i := 10) (oi := ⟨some 2, _, _, _, _, _⟩) (v := ?_) rfl (by kernel_rfl) (by kernel_rfl) (by kernel_rfl) (fun _ _ _ h => h) (Or.inl ⟨by rfl, ?_⟩) trivial ?_
            rotate_left 1
            · intro w hSw; (try dsimp only at hSw); go_simp; (try rw [if_pos (by omega)]); try (with_reducible rfl)
            try simp only [Act.put, List.setIfInBounds_toArray, List.set_cons_zero, List.set_cons_succ]
            refine wpAnyH_ready (rs := [9]) (by kernel_rfl) (by simp) ?_
            refine AllReadyH.cons (o := ⟨some 19, _, _, _, _, _⟩) rfl (fun K hK => ?_) AllReadyH.nil
            obtain ⟨zB, hzB, z0B, z1B⟩ := lit4b HB.out hjb
            go_simp
            refine hK.out _ _ trivial (fun _ => ?_)
            clear hK K hzB
            try simp only [Act.put, List.setIfInBounds_toArray, List.set_cons_zero, List.set_cons_succ]
            refine wpAnyH_take (i := 11) (oi := ⟨some 3, _, _, _, _, _⟩) (v := ?_) rfl (by kernel_rfl) (by kernel_rfl) (by kernel_rfl) (fun _ _ _ h => h) (Or.inl ⟨by rfl, ?_⟩) trivial ?_
            rotate_left 1
            · intro w hSw; (try dsimp only at hSw); go_simp; (try rw [if_pos (by omega)]); try (with_reducible rfl)
            try simp only [Act.put, List.setIfInBounds_toArray, List.set_cons_zero, List.set_cons_succ]
            refine wpAnyH_done (by kernel_rfl) ?_ _
            try simp only [Act.put, List.setIfInBounds_toArray, List.set_cons_zero, List.set_cons_succ]
            go_wp2_with fail
            go_ret2
            exact ⟨⟨_, _, rfl, by omega, by omega, by omega, by omega⟩, Kp.out.below hr0⟩
          refine AllReadyH.cons (o := ⟨some 17, _, _, _, _, _⟩) rfl (fun K hK => ?_) AllReadyH.nil
          go_simp
          with_reducible refine (pick_any 4 r _ _ R.out (by omega)).mono ?_
          rintro e v4 ⟨yb, rfl, y0b, y1b, hr', hk⟩
          go_wp2_with fail
          refine hK.out _ _ trivial (fun _ => ?_)
          clear hK K
          replace y1b := y1b (by omega)
          obtain ⟨jb, rfl⟩ : ∃ j : Nat, yb = j := ⟨yb.toNat, by omega⟩
          have hjb : jb < 4 := by omega
          replace R := Lib.hid hr'
          replace HA := Lib.hid ((hk.block _ (ltHb HA.out) (by omega)).trans HA.out)
          replace HB := Lib.hid ((hk.block _ (ltHb HB.out) (by omega)).trans HB.out)
          replace Kp := Lib.hid (Kp.out.trans (hk.mono Kp.out.size))
          have hrl : r < v4.heap.size := R.out.lt
          clear hr' hk y0b y1b
          try simp only [Act.put, List.setIfInBounds_toArray, List.set_cons_zero, List.set_cons_succ]
          refine wpAnyH_take (i := 8) (oi := ⟨some 18, _, _, _, _, _⟩) (v := ?_) rfl (by kernel_rfl) (by kernel_rfl) (by kernel_rfl) (fun _ _ _ h => h) (Or.inl ⟨by rfl, ?_⟩) trivial ?_
          rotate_left 1
          · intro w hSw; (try dsimp only at hSw); go_simp; (try rw [if_pos (by omega)]); try (with_reducible rfl)
          try simp only [Act.put, List.setIfInBounds_toArray, List.set_cons_zero, List.set_cons_succ]
          refine wpAnyH_ready (rs := [4, 9]) (by kernel_rfl) (by simp) ?_
          refine AllReadyH.cons (o := ⟨some 14, _, _, _, _, _⟩) rfl (fun K hK => ?_) ?_
          · obtain ⟨zA, hzA, z0A, z1A⟩ := lit4a HA.out hja
            go_simp
            refine hK.out _ _ trivial (fun _ => ?_)
            clear hK K hzA
            try simp only [Act.put, List.setIfInBounds_toArray, List.set_cons_zero, List.set_cons_succ]
            refine wpAnyH_take (i := 10) (oi := ⟨some 2, _, _, _, _, _⟩) (v := ?_) rfl (by kernel_rfl) (by kernel_rfl) (by kernel_rfl) (fun _ _ _ h => h) (Or.inl ⟨by rfl, ?_⟩) trivial ?_
            rotate_left 1
            · intro w hSw; (try dsimp only at hSw); go_simp; (try rw [if_pos (by omega)]); try (with_reducible rfl)
            try simp only [Act.put, List.setIfInBounds_toArray, List.set_cons_zero, List.set_cons_succ]
            refine wpAnyH_ready (rs := [9]) (by kernel_rfl) (by simp) ?_
            refine AllReadyH.cons (o := ⟨some 19, _, _, _, _, _⟩) rfl (fun K hK => ?_) AllReadyH.nil
            obtain ⟨zB, hzB, z0B, z1B⟩ := lit4b HB.out hjb
            go_simp
            refine hK.out _ _ trivial (fun _ => ?_)
            clear hK K hzB
            try simp only [Act.put, List.setIfInBounds_toArray, List.set_cons_zero, List.set_cons_succ]
            refine wpAnyH_take (i := 11) (oi := ⟨some 3, _, _, _, _, _⟩) (v := ?_) rfl (by kernel_rfl) (by kernel_rfl) (by kernel_rfl) (fun _ _ _ h => h) (Or.inl ⟨by rfl, ?_⟩) trivial ?_
            rotate_left 1
            · intro w hSw; (try dsimp only at hSw); go_simp; (try rw [if_pos (by omega)]); try (with_reducible rfl)
            try simp only [Act.put, List.setIfInBounds_toArray, List.set_cons_zero, List.set_cons_succ]
            refine wpAnyH_done (by kernel_rfl) ?_ _
            try simp only [Act.put, List.setIfInBounds_toArray, List.set_cons_zero, List.set_cons_succ]
            go_wp2_with fail
            go_ret2
            exact ⟨⟨_, _, rfl, by omega, by omega, by omega, by omega⟩, Kp.out.below hr0⟩
          refine AllReadyH.cons (o := ⟨some 19, _, _, _, _, _⟩) rfl (fun K hK => ?_) AllReadyH.nil
          obtain ⟨zB, hzB, z0B, z1B⟩ := lit4b HB.out hjb
          go_simp
          refine hK.out _ _ trivial (fun _ => ?_)
          clear hK K hzB
          try simp only [Act.put, List.setIfInBounds_toArray, List.set_cons_zero, List.set_cons_succ]
          refine wpAnyH_ready (rs := [4]) (by kernel_rfl) (by simp) ?_
          refine AllReadyH.cons (o := ⟨some 14, _, _, _, _, _⟩) rfl (fun K hK => ?_) AllReadyH.nil
          obtain ⟨zA, hzA, z0A, z1A⟩ := lit4a HA.out hja
          go_simp
          refine hK.out _ _ trivial (fun _ => ?_)
          clear hK K hzA
          try simp only [Act.put, List.setIfInBounds_toArray, List.set_cons_zero, List.set_cons_succ]
          refine wpAnyH_take (i := 10) (oi := ⟨some 2, _, _, _, _, _⟩) (v := ?_) rfl (by kernel_rfl) (by kernel_rfl) (by kernel_rfl) (fun _ _ _ h => h) (Or.inl ⟨by rfl, ?_⟩) trivial ?_
          rotate_left 1
          · intro w hSw; (try dsimp only at hSw); go_simp; (try rw [if_pos (by omega)]); try (with_reducible rfl)
          try simp only [Act.put, List.setIfInBounds_toArray, List.set_cons_zero, List.set_cons_succ]
          refine wpAnyH_take (i := 11) (oi := ⟨some 3, _, _, _, _, _⟩) (v := ?_) rfl (by kernel_rfl) (by kernel_rfl) (by kernel_rfl) (fun _ _ _ h => h) (Or.inl ⟨by rfl, ?_⟩) trivial ?_
          rotate_left 1
          · intro w hSw; (try dsimp only at hSw); go_simp; (try rw [if_pos (by omega)]); try (with_reducible rfl)
          try simp only [Act.put, List.setIfInBounds_toArray, List.set_cons_zero, List.set_cons_succ]
          refine wpAnyH_done (by kernel_rfl) ?_ _
          try simp only [Act.put, List.setIfInBounds_toArray, List.set_cons_zero, List.set_cons_succ]
          go_wp2_with fail
          go_ret2
          exact ⟨⟨_, _, rfl, by omega, by omega, by omega, by omega⟩, Kp.out.below hr0⟩
        refine AllReadyH.cons (o := ⟨some 17, _, _, _, _, _⟩) rfl (fun K hK => ?_) AllReadyH.nil
        go_simp
        with_reducible refine (pick_any 4 r _ _ R.out (by omega)).mono ?_
        rintro e v3 ⟨yb, rfl, y0b, y1b, hr', hk⟩
        go_wp2_with fail
        refine hK.out _ _ trivial (fun _ => ?_)
        clear hK K
        replace y1b := y1b (by omega)
        obtain ⟨jb, rfl⟩ : ∃ j : Nat, yb = j := ⟨yb.toNat, by omega⟩
        have hjb : jb < 4 := by omega
        replace R := Lib.hid hr'
        replace HA := Lib.hid ((hk.block _ (ltHb HA.out) (by omega)).trans HA.out)
        replace Kp := Lib.hid (Kp.out.trans (hk.mono Kp.out.size))
        have hrl : r < v3.heap.size := R.out.lt
        clear hr' hk y0b y1b
        try simp only [Act.put, List.setIfInBounds_toArray, List.set_cons_zero, List.set_cons_succ]
        refine wpAnyH_ready (rs := [4, 5]) (by kernel_rfl) (by simp) ?_
        refine AllReadyH.cons (o := ⟨some 14, _, _, _, _, _⟩) rfl (fun K hK => ?_) ?_
        · obtain ⟨zA, hzA, z0A, z1A⟩ := lit4a HA.out hja
          go_simp
          refine hK.out _ _ trivial (fun _ => ?_)
          clear hK K hzA
          try simp only [Act.put, List.setIfInBounds_toArray, List.set_cons_zero, List.set_cons_succ]
          refine wpAnyH_take (i := 10) (oi := ⟨some 2, _, _, _, _, _⟩) (v := ?_) rfl (by kernel_rfl) (by kernel_rfl) (by kernel_rfl) (fun _ _ _ h => h) (Or.inl ⟨by rfl, ?_⟩) trivial ?_
          rotate_left 1
          · intro w hSw; (try dsimp only at hSw); go_simp; (try rw [if_pos (by omega)]); try (with_reducible rfl)
          try simp only [Act.put, List.setIfInBounds_toArray, List.set_cons_zero, List.set_cons_succ]
          refine wpAnyH_ready (rs := [5]) (by kernel_rfl) (by simp) ?_
          refine AllReadyH.cons (o := ⟨some 15, _, _, _, _, _⟩) rfl (fun K hK => ?_) AllReadyH.nil
          go_simp
          refine hK.out _ _ trivial (fun _ => ?_)
          clear hK K
          have HB := Lib.hid (heap_alloc_new v3 (.cells #[.int .i64 (-1), .int .i64 4, .int .i64 5, .int .i64 0] 3))
          replace R := Lib.hid (R.out.alloc (.cells #[.int .i64 (-1), .int .i64 4, .int .i64 5, .int .i64 0] 3))
          have hsz := Kp.out.size
          replace HA := Lib.hid ((Below.heap_alloc v3 (.cells #[.int .i64 (-1), .int .i64 4, .int .i64 5, .int .i64 0] 3) _ (ltHb HA.out)).trans HA.out)
          replace Kp := Lib.hid (Kp.out.alloc hsz (.cells #[.int .i64 (-1), .int .i64 4, .int .i64 5, .int .i64 0] 3))
          have hrB : r < v3.heap.size := by have := hrl; omega
          clear hsz
          obtain ⟨bB, hbB⟩ : ∃ c, Hid (v3.heap.size = c) := ⟨_, Lib.hid rfl⟩
          rw [hbB.out] at HB hrB ⊢
          have hrl : r < (v3.alloc (.cells #[.int .i64 (-1), .int .i64 4, .int .i64 5, .int .i64 0] 3)).heap.size := R.out.lt
          generalize World.alloc v3 (.cells #[.int .i64 (-1), .int .i64 4, .int .i64 5, .int .i64 0] 3) = v4 at R Kp hrl HB HA ⊢
          clear hbB
          try simp only [Act.put, List.setIfInBounds_toArray, List.set_cons_zero, List.set_cons_succ]
          refine wpAnyH_take (i := 8) (oi := ⟨some 18, _, _, _, _, _⟩) (v := ?_) rfl (by kernel_rfl) (by kernel_rfl) (by kernel_rfl) (fun _ _ _ h => h) (Or.inl ⟨by rfl, ?_⟩) trivial ?_
          rotate_left 1
          · intro w hSw; (try dsimp only at hSw); go_simp; (try rw [if_pos (by omega)]); try (with_reducible rfl)
          try simp only [Act.put, List.setIfInBounds_toArray, List.set_cons_zero, List.set_cons_succ]
          refine wpAnyH_ready (rs := [9]) (by kernel_rfl) (by simp) ?_
          refine AllReadyH.cons (o := ⟨some 19, _, _, _, _, _⟩) rfl (fun K hK => ?_) AllReadyH.nil
          obtain ⟨zB, hzB, z0B, z1B⟩ := lit4b HB.out hjb
          go_simp
          refine hK.out _ _ trivial (fun _ => ?_)
          clear hK K hzB
          try simp only [Act.put, List.setIfInBounds_toArray, List.set_cons_zero, List.set_cons_succ]
          refine wpAnyH_take (i := 11) (oi := ⟨some 3, _, _, _, _, _⟩) (v := ?_) rfl (by kernel_rfl) (by kernel_rfl) (by kernel_rfl) (fun _ _ _ h => h) (Or.inl ⟨by rfl, ?_⟩) trivial ?_
          rotate_left 1
          · intro w hSw; (try dsimp only at hSw); go_simp; (try rw [if_pos (by omega)]); try (with_reducible rfl)
          try simp only [Act.put, List.setIfInBounds_toArray, List.set_cons_zero, List.set_cons_succ]
          refine wpAnyH_done (by kernel_rfl) ?_ _
          try simp only [Act.put, List.setIfInBounds_toArray, List.set_cons_zero, List.set_cons_succ]
          go_wp2_with fail
          go_ret2
          exact ⟨⟨_, _, rfl, by omega, by omega, by omega, by omega⟩, Kp.out.below hr0⟩
        refine AllReadyH.cons (o := ⟨some 15, _, _, _, _, _⟩) rfl (fun K hK => ?_) AllReadyH.nil
        go_simp
        refine hK.out _ _ trivial (fun _ => ?_)
        clear hK K
        have HB := Lib.hid (heap_alloc_new v3 (.cells #[.int .i64 (-1), .int .i64 4, .int .i64 5, .int .i64 0] 3))
        replace R := Lib.hid (R.out.alloc (.cells #[.int .i64 (-1), .int .i64 4, .int .i64 5, .int .i64 0] 3))
        have hsz := Kp.out.size
        replace HA := Lib.hid ((Below.heap_alloc v3 (.cells #[.int .i64 (-1), .int .i64 4, .int .i64 5, .int .i64 0] 3) _ (ltHb HA.out)).trans HA.out)
        replace Kp := Lib.hid (Kp.out.alloc hsz (.cells #[.int .i64 (-1), .int .i64 4, .int .i64 5, .int .i64 0] 3))
        have hrB : r < v3.heap.size := by have := hrl; omega
        clear hsz
        obtain ⟨bB, hbB⟩ : ∃ c, Hid (v3.heap.size = c) := ⟨_, Lib.hid rfl⟩
        rw [hbB.out] at HB hrB ⊢
        have hrl : r < (v3.alloc (.cells #[.int .i64 (-1), .int .i64 4, .int .i64 5, .int .i64 0] 3)).heap.size := R.out.lt
        generalize World.alloc v3 (.cells #[.int .i64 (-1), .int .i64 4, .int .i64 5, .int .i64 0] 3) = v4 at R Kp hrl HB HA ⊢
        clear hbB
        try simp only [Act.put, List.setIfInBounds_toArray, List.set_cons_zero, List.set_cons_succ]
        refine wpAnyH_take (i := 8) (oi := ⟨some 18, _, _, _, _, _⟩) (v := ?_) rfl (by kernel_rfl) (by kernel_rfl) (by kernel_rfl) (fun _ _ _ h => h) (Or.inl ⟨by rfl, ?_⟩) trivial ?_
        rotate_left 1
        · intro w hSw; (try dsimp only at hSw); go_simp; (try rw [if_pos (by omega)]); try (with_reducible rfl)
        try simp only [Act.put, List.setIfInBounds_toArray, List.set_cons_zero, List.set_cons_succ]
        refine wpAnyH_ready (rs := [4, 9]) (by kernel_rfl) (by simp) ?_
        refine AllReadyH.cons (o := ⟨some 14, _, _, _, _, _⟩) rfl (fun K hK => ?_) ?_
        · obtain ⟨zA, hzA, z0A, z1A⟩ := lit4a HA.out hja
          go_simp
          refine hK.out _ _ trivial (fun _ => ?_)
          clear hK K hzA
          try simp only [Act.put, List.setIfInBounds_toArray, List.set_cons_zero, List.set_cons_succ]
          refine wpAnyH_take (i := 10) (oi := ⟨some 2, _, _, _, _, _⟩) (v := ?_) rfl (by kernel_rfl) (by kernel_rfl) (by kernel_rfl) (fun _ _ _ h => h) (Or.inl ⟨by rfl, ?_⟩) trivial ?_
          rotate_left 1
          · intro w hSw; (try dsimp only at hSw); go_simp; (try rw [if_pos (by omega)]); try (with_reducible rfl)
          try simp only [Act.put, List.setIfInBounds_toArray, List.set_cons_zero, List.set_cons_succ]
          refine wpAnyH_ready (rs := [9]) (by kernel_rfl) (by simp) ?_
          refine AllReadyH.cons (o := ⟨some 19, _, _, _, _, _⟩) rfl (fun K hK => ?_) AllReadyH.nil
          obtain ⟨zB, hzB, z0B, z1B⟩ := lit4b HB.out hjb
          go_simp
          refine hK.out _ _ trivial (fun _ => ?_)
          clear hK K hzB
          try simp only [Act.put, List.setIfInBounds_toArray, List.set_cons_zero, List.set_cons_succ]
          refine wpAnyH_take (i := 11) (oi := ⟨some 3, _, _, _, _, _⟩) (v := ?_) rfl (by kernel_rfl) (by kernel_rfl) (by kernel_rfl) (fun _ _ _ h => h) (Or.inl ⟨by rfl, ?_⟩) trivial ?_
          rotate_left 1
          · intro w hSw; (try dsimp only at hSw); go_simp; (try rw [if_pos (by omega)]); try (with_reducible rfl)
          try simp only [Act.put, List.setIfInBounds_toArray, List.set_cons_zero, List.set_cons_succ]
          refine wpAnyH_done (by kernel_rfl) ?_ _
          try simp only [Act.put, List.setIfInBounds_toArray, List.set_cons_zero, List.set_cons_succ]
          go_wp2_with fail
          go_ret2
          exact ⟨⟨_, _, rfl, by omega, by omega, by omega, by omega⟩, Kp.out.below hr0⟩
        refine AllReadyH.cons (o := ⟨some 19, _, _, _, _, _⟩) rfl (fun K hK => ?_) AllReadyH.nil
        obtain ⟨zB, hzB, z0B, z1B⟩ := lit4b HB.out hjb
        go_simp
        refine hK.out _ _ trivial (fun _ => ?_)
        clear hK K hzB
        try simp only [Act.put, List.setIfInBounds_toArray, List.set_cons_zero, List.set_cons_succ]
        refine wpAnyH_ready (rs := [4]) (by kernel_rfl) (by simp) ?_
        refine AllReadyH.cons (o := ⟨some 14, _, _, _, _, _⟩) rfl (fun K hK => ?_) AllReadyH.nil
        obtain ⟨zA, hzA, z0A, z1A⟩ := lit4a HA.out hja
        go_simp
        refine hK.out _ _ trivial (fun _ => ?_)
        clear hK K hzA
        try simp only [Act.put, List.setIfInBounds_toArray, List.set_cons_zero, List.set_cons_succ]
        refine wpAnyH_take (i := 10) (oi := ⟨some 2, _, _, _, _, _⟩) (v := ?_) rfl (by kernel_rfl) (by kernel_rfl) (by kernel_rfl) (fun _ _ _ h => h) (Or.inl ⟨by rfl, ?_⟩) trivial ?_
        rotate_left 1
        · intro w hSw; (try dsimp only at hSw); go_simp; (try rw [if_pos (by omega)]); try (with_reducible rfl)
        try simp only [Act.put, List.setIfInBounds_toArray, List.set_cons_zero, List.set_cons_succ]
        refine wpAnyH_take (i := 11) (oi := ⟨some 3, _, _, _, _, _⟩) (v := ?_) rfl (by kernel_rfl) (by kernel_rfl) (by kernel_rfl) (fun _ _ _ h => h) (Or.inl ⟨by rfl, ?_⟩) trivial ?_
        rotate_left 1
        · intro w hSw; (try dsimp only at hSw); go_simp; (try rw [if_pos (by omega)]); try (with_reducible rfl)
        try simp only [Act.put, List.setIfInBounds_toArray, List.set_cons_zero, List.set_cons_succ]
        refine wpAnyH_done (by kernel_rfl) ?_ _
        try simp only [Act.put, List.setIfInBounds_toArray, List.set_cons_zero, List.set_cons_succ]
        go_wp2_with fail
        go_ret2
        exact ⟨⟨_, _, rfl, by omega, by omega, by omega, by omega⟩, Kp.out.below hr0⟩
      refine AllReadyH.cons (o := ⟨some 15, _, _, _, _, _⟩) rfl (fun K hK => ?_) ?_
      · go_simp
        refine hK.out _ _ trivial (fun _ => ?_)
        clear hK K
        have HB := Lib.hid (heap_alloc_new v1 (.cells #[.int .i64 (-1), .int .i64 4, .int .i64 5, .int .i64 0] 3))
        replace R := Lib.hid (R.out.alloc (.cells #[.int .i64 (-1), .int .i64 4, .int .i64 5, .int .i64 0] 3))
        have hsz := Kp.out.size
        replace Kp := Lib.hid (Kp.out.alloc hsz (.cells #[.int .i64 (-1), .int .i64 4, .int .i64 5, .int .i64 0] 3))
        have hrB : r < v1.heap.size := by have := hrl; omega
        clear hsz
        obtain ⟨bB, hbB⟩ : ∃ c, Hid (v1.heap.size = c) := ⟨_, Lib.hid rfl⟩
        rw [hbB.out] at HB hrB ⊢
        have hrl : r < (v1.alloc (.cells #[.int .i64 (-1), .int .i64 4, .int .i64 5, .int .i64 0] 3)).heap.size := R.out.lt
        generalize World.alloc v1 (.cells #[.int .i64 (-1), .int .i64 4, .int .i64 5, .int .i64 0] 3) = v2 at R Kp hrl HB  ⊢
        clear hbB
        try simp only [Act.put, List.setIfInBounds_toArray, List.set_cons_zero, List.set_cons_succ]
        refine wpAnyH_ready (rs := [0, 7]) (by kernel_rfl) (by simp) ?_
        refine AllReadyH.cons (o := ⟨some 10, _, _, _, _, _⟩) rfl (fun K hK => ?_) ?_
        · go_simp
          refine hK.out _ _ trivial (fun _ => ?_)
          clear hK K
          have HA := Lib.hid (heap_alloc_new v2 (.cells #[.int .i64 (-1), .int .i64 0, .int .i64 199, .int .i64 200] 3))
          replace R := Lib.hid (R.out.alloc (.cells #[.int .i64 (-1), .int .i64 0, .int .i64 199, .int .i64 200] 3))
          have hsz := Kp.out.size
          replace HB := Lib.hid ((Below.heap_alloc v2 (.cells #[.int .i64 (-1), .int .i64 0, .int .i64 199, .int .i64 200] 3) _ (ltHb HB.out)).trans HB.out)
          replace Kp := Lib.hid (Kp.out.alloc hsz (.cells #[.int .i64 (-1), .int .i64 0, .int .i64 199, .int .i64 200] 3))
          have hrA : r < v2.heap.size := by have := hrl; omega
          clear hsz
          obtain ⟨bA, hbA⟩ : ∃ c, Hid (v2.heap.size = c) := ⟨_, Lib.hid rfl⟩
          rw [hbA.out] at HA hrA ⊢
          have hrl : r < (v2.alloc (.cells #[.int .i64 (-1), .int .i64 0, .int .i64 199, .int .i64 200] 3)).heap.size := R.out.lt
          generalize World.alloc v2 (.cells #[.int .i64 (-1), .int .i64 0, .int .i64 199, .int .i64 200] 3) = v3 at R Kp hrl HA HB ⊢
          clear hbA
          try simp only [Act.put, List.setIfInBounds_toArray, List.set_cons_zero, List.set_cons_succ]
          refine wpAnyH_take (i := 3) (oi := ⟨some 13, _, _, _, _, _⟩) (v := ?_) rfl (by kernel_rfl) (by kernel_rfl) (by kernel_rfl) (fun _ _ _ h => h) (Or.inl ⟨by rfl, ?_⟩) trivial ?_
          rotate_left 1
          · intro w hSw; (try dsimp only at hSw); go_simp; (try rw [if_pos (by omega)]); try (with_reducible rfl)
          try simp only [Act.put, List.setIfInBounds_toArray, List.set_cons_zero, List.set_cons_succ]
          refine wpAnyH_ready (rs := [4, 7]) (by kernel_rfl) (by simp) ?_
          refine AllReadyH.cons (o := ⟨some 14, _, _, _, _, _⟩) rfl (fun K hK => ?_) ?_
          · obtain ⟨zA, hzA, z0A, z1A⟩ := lit4a HA.out hja
            go_simp
            refine hK.out _ _ trivial (fun _ => ?_)
            clear hK K hzA
            try simp only [Act.put, List.setIfInBounds_toArray, List.set_cons_zero, List.set_cons_succ]
            refine wpAnyH_ready (rs := [7]) (by kernel_rfl) (by simp) ?_
            refine AllReadyH.cons (o := ⟨some 17, _, _, _, _, _⟩) rfl (fun K hK => ?_) AllReadyH.nil
            go_simp
            with_reducible refine (pick_any 4 r _ _ R.out (by omega)).mono ?_
            rintro e v4 ⟨yb, rfl, y0b, y1b, hr', hk⟩
            go_wp2_with fail
            refine hK.out _ _ trivial (fun _ => ?_)
            clear hK K
            replace y1b := y1b (by omega)
            obtain ⟨jb, rfl⟩ : ∃ j : Nat, yb = j := ⟨yb.toNat, by omega⟩
            have hjb : jb < 4 := by omega
            replace R := Lib.hid hr'
            replace HB := Lib.hid ((hk.block _ (ltHb HB.out) (by omega)).trans HB.out)
            replace HA := Lib.hid ((hk.block _ (ltHb HA.out) (by omega)).trans HA.out)
            replace Kp := Lib.hid (Kp.out.trans (hk.mono Kp.out.size))
            have hrl : r < v4.heap.size := R.out.lt
            clear hr' hk y0b y1b
            try simp only [Act.put, List.setIfInBounds_toArray, List.set_cons_zero, List.set_cons_succ]
            refine wpAnyH_take (i := 8) (oi := ⟨some 18, _, _, _, _, _⟩) (v := ?_) rfl (by kernel_rfl) (by kernel_rfl) (by kernel_rfl) (fun _ _ _ h => h) (Or.inl ⟨by rfl, ?_⟩) trivial ?_
            rotate_left 1
            · intro w hSw; (try dsimp only at hSw); go_simp; (try rw [if_pos (by omega)]); try (with_reducible rfl)
            try simp only [Act.put, List.setIfInBounds_toArray, List.set_cons_zero, List.set_cons_succ]
            refine wpAnyH_take (i := 10) (oi := ⟨some 2, _, _, _, _, _⟩) (v := ?_) rfl (by kernel_rfl) (by kernel_rfl) (by kernel_rfl) (fun _ _ _ h => h) (Or.inl ⟨by rfl, ?_⟩) trivial ?_
            rotate_left 1
            · intro w hSw; (try dsimp only at hSw); go_simp; (try rw [if_pos (by omega)]); try (with_reducible rfl)
            try simp only [Act.put, List.setIfInBounds_toArray, List.set_cons_zero, List.set_cons_succ]
            refine wpAnyH_ready (rs := [9]) (by kernel_rfl) (by simp) ?_
            refine AllReadyH.cons (o := ⟨some 19, _, _, _, _, _⟩) rfl (fun K hK => ?_) AllReadyH.nil
            obtain ⟨zB, hzB, z0B, z1B⟩ := lit4b HB.out hjb
            go_simp
            refine hK.out _ _ trivial (fun _ => ?_)
            clear hK K hzB
            try simp only [Act.put, List.setIfInBounds_toArray, List.set_cons_zero, List.set_cons_succ]
            refine wpAnyH_take (i := 11) (oi := ⟨some 3, _, _, _, _, _⟩) (v := ?_) rfl (by kernel_rfl) (by kernel_rfl) (by kernel_rfl) (fun _ _ _ h => h) (Or.inl ⟨by rfl, ?_⟩) trivial ?_
            rotate_left 1
            · intro w hSw; (try dsimp only at hSw); go_simp; (try rw [if_pos (by omega)]); try (with_reducible rfl)
            try simp only [Act.put, List.setIfInBounds_toArray, List.set_cons_zero, List.set_cons_succ]
            refine wpAnyH_done (by kernel_rfl) ?_ _
            try simp only [Act.put, List.setIfInBounds_toArray, List.set_cons_zero, List.set_cons_succ]
            go_wp2_with fail
            go_ret2
            exact ⟨⟨_, _, rfl, by omega, by omega, by omega, by omega⟩, Kp.out.below hr0⟩
          refine AllReadyH.cons (o := ⟨some 17, _, _, _, _, _⟩) rfl (fun K hK => ?_) AllReadyH.nil
          go_simp
          with_reducible refine (pick_any 4 r _ _ R.out (by omega)).mono ?_
          rintro e v4 ⟨yb, rfl, y0b, y1b, hr', hk⟩
          go_wp2_with fail
          refine hK.out _ _ trivial (fun _ => ?_)
          clear hK K
          replace y1b := y1b (by omega)
          obtain ⟨jb, rfl⟩ : ∃ j : Nat, yb = j := ⟨yb.toNat, by omega⟩
          have hjb : jb < 4 := by omega
          replace R := Lib.hid hr'
          replace HB := Lib.hid ((hk.block _ (ltHb HB.out) (by omega)).trans HB.out)
          replace HA := Lib.hid ((hk.block _ (ltHb HA.out) (by omega)).trans HA.out)
          replace Kp := Lib.hid (Kp.out.trans (hk.mono Kp.out.size))
          have hrl : r < v4.heap.size := R.out.lt
          clear hr' hk y0b y1b
          try simp only [Act.put, List.setIfInBounds_toArray, List.set_cons_zero, List.set_cons_succ]
          refine wpAnyH_take (i := 8) (oi := ⟨some 18, _, _, _, _, _⟩) (v := ?_) rfl (by kernel_rfl) (by kernel_rfl) (by kernel_rfl) (fun _ _ _ h => h) (Or.inl ⟨by rfl, ?_⟩) trivial ?_
          rotate_left 1
          · intro w hSw; (try dsimp only at hSw); go_simp; (try rw [if_pos (by omega)]); try (with_reducible rfl)
          try simp only [Act.put, List.setIfInBounds_toArray, List.set_cons_zero, List.set_cons_succ]
          refine wpAnyH_ready (rs := [4, 9]) (by kernel_rfl) (by simp) ?_
          refine AllReadyH.cons (o := ⟨some 14, _, _, _, _, _⟩) rfl (fun K hK => ?_) ?_
          · obtain ⟨zA, hzA, z0A, z1A⟩ := lit4a HA.out hja
            go_simp
            refine hK.out _ _ trivial (fun _ => ?_)
            clear hK K hzA
            try simp only [Act.put, List.setIfInBounds_toArray, List.set_cons_zero, List.set_cons_succ]
            refine wpAnyH_take (i := 10) (oi := ⟨some 2, _, _, _, _, _⟩) (v := ?_) rfl (by kernel_rfl) (by kernel_rfl) (by kernel_rfl) (fun _ _ _ h => h) (Or.inl ⟨by rfl, ?_⟩) trivial ?_
            rotate_left 1
            · intro w hSw; (try dsimp only at hSw); go_simp; (try rw [if_pos (by omega)]); try (with_reducible rfl)
            try simp only [Act.put, List.setIfInBounds_toArray, List.set_cons_zero, List.set_cons_succ]
            refine wpAnyH_ready (rs := [9]) (by kernel_rfl) (by simp) ?_
            refine AllReadyH.cons (o := ⟨some 19, _, _, _, _, _⟩) rfl (fun K hK => ?_) AllReadyH.nil
            obtain ⟨zB, hzB, z0B, z1B⟩ := lit4b HB.out hjb
            go_simp
            refine hK.out _ _ trivial (fun _ => ?_)
            clear hK K hzB
            try simp only [Act.put, List.setIfInBounds_toArray, List.set_cons_zero, List.set_cons_succ]
            refine wpAnyH_take (i := 11) (oi := ⟨some 3, _, _, _, _, _⟩) (v := ?_) rfl (by kernel_rfl) (by kernel_rfl) (by kernel_rfl) (fun _ _ _ h => h) (Or.inl ⟨by rfl, ?_⟩) trivial ?_
            rotate_left 1
            · intro w hSw; (try dsimp only at hSw); go_simp; (try rw [if_pos (by omega)]); try (with_reducible rfl)
            try simp only [Act.put, List.setIfInBounds_toArray, List.set_cons_zero, List.set_cons_succ]
            refine wpAnyH_done (by kernel_rfl) ?_ _
            try simp only [Act.put, List.setIfInBounds_toArray, List.set_cons_zero, List.set_cons_succ]
            go_wp2_with fail
            go_ret2
            exact ⟨⟨_, _, rfl, by omega, by omega, by omega, by omega⟩, Kp.out.below hr0⟩
          refine AllReadyH.cons (o := ⟨some 19, _, _, _, _, _⟩) rfl (fun K hK => ?_) AllReadyH.nil
          obtain ⟨zB, hzB, z0B, z1B⟩ := lit4b HB.out hjb
          go_simp
          refine hK.out _ _ trivial (fun _ => ?_)
          clear hK K hzB
          try simp only [Act.put, List.setIfInBounds_toArray, List.set_cons_zero, List.set_cons_succ]
          refine wpAnyH_ready (rs := [4]) (by kernel_rfl) (by simp) ?_
          refine AllReadyH.cons (o := ⟨some 14, _, _, _, _, _⟩) rfl (fun K hK => ?_) AllReadyH.nil
          obtain ⟨zA, hzA, z0A, z1A⟩ := lit4a HA.out hja
          go_simp
          refine hK.out _ _ trivial (fun _ => ?_)
          clear hK K hzA
          try simp only [Act.put, List.setIfInBounds_toArray, List.set_cons_zero, List.set_cons_succ]
          refine wpAnyH_take (i := 10) (oi := ⟨some 2, _, _, _, _, _⟩) (v := ?_) rfl (by kernel_rfl) (by kernel_rfl) (by kernel_rfl) (fun _ _ _ h => h) (Or.inl ⟨by rfl, ?_⟩) trivial ?_
          rotate_left 1
          · intro w hSw; (try dsimp only at hSw); go_simp; (try rw [if_pos (by omega)]); try (with_reducible rfl)
          try simp only [Act.put, List.setIfInBounds_toArray, List.set_cons_zero, List.set_cons_succ]
          refine wpAnyH_take (i := 11) (oi := ⟨some 3, _, _, _, _, _⟩) (v := ?_) rfl (by kernel_rfl) (by kernel_rfl) (by kernel_rfl) (fun _ _ _ h => h) (Or.inl ⟨by rfl, ?_⟩) trivial ?_
          rotate_left 1
          · intro w hSw; (try dsimp only at hSw); go_simp; (try rw [if_pos (by omega)]); try (with_reducible rfl)
          try simp only [Act.put, List.setIfInBounds_toArray, List.set_cons_zero, List.set_cons_succ]
          refine wpAnyH_done (by kernel_rfl) ?_ _
          try simp only [Act.put, List.setIfInBounds_toArray, List.set_cons_zero, List.set_cons_succ]
          go_wp2_with fail
          go_ret2
          exact ⟨⟨_, _, rfl, by omega, by omega, by omega, by omega⟩, Kp.out.below hr0⟩
        refine AllReadyH.cons (o := ⟨some 17, _, _, _, _, _⟩) rfl (fun K hK => ?_) AllReadyH.nil
        go_simp
        with_reducible refine (pick_any 4 r _ _ R.out (by omega)).mono ?_
        rintro e v3 ⟨yb, rfl, y0b, y1b, hr', hk⟩
        go_wp2_with fail
        refine hK.out _ _ trivial (fun _ => ?_)
        clear hK K
        replace y1b := y1b (by omega)
        obtain ⟨jb, rfl⟩ : ∃ j : Nat, yb = j := ⟨yb.toNat, by omega⟩
        have hjb : jb < 4 := by omega
        replace R := Lib.hid hr'
        replace HB := Lib.hid ((hk.block _ (ltHb HB.out) (by omega)).trans HB.out)
        replace Kp := Lib.hid (Kp.out.trans (hk.mono Kp.out.size))
        have hrl : r < v3.heap.size := R.out.lt
        clear hr' hk y0b y1b
        try simp only [Act.put, List.setIfInBounds_toArray, List.set_cons_zero, List.set_cons_succ]
        refine wpAnyH_take (i := 8) (oi := ⟨some 18, _, _, _, _, _⟩) (v := ?_) rfl (by kernel_rfl) (by kernel_rfl) (by kernel_rfl) (fun _ _ _ h => h) (Or.inl ⟨by rfl, ?_⟩) trivial ?_
        rotate_left 1
        · intro w hSw; (try dsimp only at hSw); go_simp; (try rw [if_pos (by omega)]); try (with_reducible rfl)
        try simp only [Act.put, List.setIfInBounds_toArray, List.set_cons_zero, List.set_cons_succ]
        refine wpAnyH_ready (rs := [0, 9]) (by kernel_rfl) (by simp) ?_
        refine AllReadyH.cons (o := ⟨some 10, _, _, _, _, _⟩) rfl (fun K hK => ?_) ?_
        · go_simp
          refine hK.out _ _ trivial (fun _ => ?_)
          clear hK K
          have HA := Lib.hid (heap_alloc_new v3 (.cells #[.int .i64 (-1), .int .i64 0, .int .i64 199, .int .i64 200] 3))
          replace R := Lib.hid (R.out.alloc (.cells #[.int .i64 (-1), .int .i64 0, .int .i64 199, .int .i64 200] 3))
          have hsz := Kp.out.size
          replace HB := Lib.hid ((Below.heap_alloc v3 (.cells #[.int .i64 (-1), .int .i64 0, .int .i64 199, .int .i64 200] 3) _ (ltHb HB.out)).trans HB.out)
          replace Kp := Lib.hid (Kp.out.alloc hsz (.cells #[.int .i64 (-1), .int .i64 0, .int .i64 199, .int .i64 200] 3))
          have hrA : r < v3.heap.size := by have := hrl; omega
          clear hsz
          obtain ⟨bA, hbA⟩ : ∃ c, Hid (v3.heap.size = c) := ⟨_, Lib.hid rfl⟩
          rw [hbA.out] at HA hrA ⊢
          have hrl : r < (v3.alloc (.cells #[.int .i64 (-1), .int .i64 0, .int .i64 199, .int .i64 200] 3)).heap.size := R.out.lt
          generalize World.alloc v3 (.cells #[.int .i64 (-1), .int .i64 0, .int .i64 199, .int .i64 200] 3) = v4 at R Kp hrl HA HB ⊢
          clear hbA
          try simp only [Act.put, List.setIfInBounds_toArray, List.set_cons_zero, List.set_cons_succ]
          refine wpAnyH_take (i := 3) (oi := ⟨some 13, _, _, _, _, _⟩) (v := ?_) rfl (by kernel_rfl) (by kernel_rfl) (by kernel_rfl) (fun _ _ _ h => h) (Or.inl ⟨by rfl, ?_⟩) trivial ?_
          rotate_left 1
          · intro w hSw; (try dsimp only at hSw); go_simp; (try rw [if_pos (by omega)]); try (with_reducible rfl)
          try simp only [Act.put, List.setIfInBounds_toArray, List.set_cons_zero, List.set_cons_succ]
          refine wpAnyH_ready (rs := [4, 9]) (by kernel_rfl) (by simp) ?_
          refine AllReadyH.cons (o := ⟨some 14, _, _, _, _, _⟩) rfl (fun K hK => ?_) ?_
          · obtain ⟨zA, hzA, z0A, z1A⟩ := lit4a HA.out hja
            go_simp
            refine hK.out _ _ trivial (fun _ => ?_)
            clear hK K hzA
            try simp only [Act.put, List.setIfInBounds_toArray, List.set_cons_zero, List.set_cons_succ]
            refine wpAnyH_take (i := 10) (oi := ⟨some 2, _, _, _, _, _⟩) (v := ?_) rfl (by kernel_rfl) (by kernel_rfl) (by kernel_rfl) (fun _ _ _ h => h) (Or.inl ⟨by rfl, ?_⟩) trivial ?_
            rotate_left 1
            · intro w hSw; (try dsimp only at hSw); go_simp; (try rw [if_pos (by omega)]); try (with_reducible rfl)
            try simp only [Act.put, List.setIfInBounds_toArray, List.set_cons_zero, List.set_cons_succ]
            refine wpAnyH_ready (rs := [9]) (by kernel_rfl) (by simp) ?_
            refine AllReadyH.cons (o := ⟨some 19, _, _, _, _, _⟩) rfl (fun K hK => ?_) AllReadyH.nil
            obtain ⟨zB, hzB, z0B, z1B⟩ := lit4b HB.out hjb
            go_simp
            refine hK.out _ _ trivial (fun _ => ?_)
            clear hK K hzB
            try simp only [Act.put, List.setIfInBounds_toArray, List.set_cons_zero, List.set_cons_succ]
            refine wpAnyH_take (i := 11) (oi := ⟨some 3, _, _, _, _, _⟩) (v := ?_) rfl (by kernel_rfl) (by kernel_rfl) (by kernel_rfl) (fun _ _ _ h => h) (Or.inl ⟨by rfl, ?_⟩) trivial ?_
            rotate_left 1
            · intro w hSw; (try dsimp only at hSw); go_simp; (try rw [if_pos (by omega)]); try (with_reducible rfl)
            try simp only [Act.put, List.setIfInBounds_toArray, List.set_cons_zero, List.set_cons_succ]
            refine wpAnyH_done (by kernel_rfl) ?_ _
            try simp only [Act.put, List.setIfInBounds_toArray, List.set_cons_zero, List.set_cons_succ]
            go_wp2_with fail
            go_ret2
            exact ⟨⟨_, _, rfl, by omega, by omega, by omega, by omega⟩, Kp.out.below hr0⟩
          refine AllReadyH.cons (o := ⟨some 19, _, _, _, _, _⟩) rfl (fun K hK => ?_) AllReadyH.nil
          obtain ⟨zB, hzB, z0B, z1B⟩ := lit4b HB.out hjb
          go_simp
          refine hK.out _ _ trivial (fun _ => ?_)
          clear hK K hzB
          try simp only [Act.put, List.setIfInBounds_toArray, List.set_cons_zero, List.set_cons_succ]
          refine wpAnyH_ready (rs := [4]) (by kernel_rfl) (by simp) ?_
          refine AllReadyH.cons (o := ⟨some 14, _, _, _, _, _⟩) rfl (fun K hK => ?_) AllReadyH.nil
          obtain ⟨zA, hzA, z0A, z1A⟩ := lit4a HA.out hja
          go_simp
          refine hK.out _ _ trivial (fun _ => ?_)
          clear hK K hzA
          try simp only [Act.put, List.setIfInBounds_toArray, List.set_cons_zero, List.set_cons_succ]
          refine wpAnyH_take (i := 10) (oi := ⟨some 2, _, _, _, _, _⟩) (v := ?_) rfl (by kernel_rfl) (by kernel_rfl) (by kernel_rfl) (fun _ _ _ h => h) (Or.inl ⟨by rfl, ?_⟩) trivial ?_
          rotate_left 1
          · intro w hSw; (try dsimp only at hSw); go_simp; (try rw [if_pos (by omega)]); try (with_reducible rfl)
          try simp only [Act.put, List.setIfInBounds_toArray, List.set_cons_zero, List.set_cons_succ]
          refine wpAnyH_take (i := 11) (oi := ⟨some 3, _, _, _, _, _⟩) (v := ?_) rfl (by kernel_rfl) (by kernel_rfl) (by kernel_rfl) (fun _ _ _ h => h) (Or.inl ⟨by rfl, ?_⟩) trivial ?_
          rotate_left 1
          · intro w hSw; (try dsimp only at hSw); go_simp; (try rw [if_pos (by omega)]); try (with_reducible rfl)
          try simp only [Act.put, List.setIfInBounds_toArray, List.set_cons_zero, List.set_cons_succ]
          refine wpAnyH_done (by kernel_rfl) ?_ _
          try simp only [Act.put, List.setIfInBounds_toArray, List.set_cons_zero, List.set_cons_succ]
          go_wp2_with fail
          go_ret2
          exact ⟨⟨_, _, rfl, by omega, by omega, by omega, by omega⟩, Kp.out.below hr0⟩
        refine AllReadyH.cons (o := ⟨some 19, _, _, _, _, _⟩) rfl (fun K hK => ?_) AllReadyH.nil
        obtain ⟨zB, hzB, z0B, z1B⟩ := lit4b HB.out hjb
        go_simp
        refine hK.out _ _ trivial (fun _ => ?_)
        clear hK K hzB
        try simp only [Act.put, List.setIfInBounds_toArray, List.set_cons_zero, List.set_cons_succ]
        refine wpAnyH_ready (rs := [0]) (by kernel_rfl) (by simp) ?_
        refine AllReadyH.cons (o := ⟨some 10, _, _, _, _, _⟩) rfl (fun K hK => ?_) AllReadyH.nil
        go_simp
        refine hK.out _ _ trivial (fun _ => ?_)
        clear hK K
        have HA := Lib.hid (heap_alloc_new v3 (.cells #[.int .i64 (-1), .int .i64 0, .int .i64 199, .int .i64 200] 3))
        replace R := Lib.hid (R.out.alloc (.cells #[.int .i64 (-1), .int .i64 0, .int .i64 199, .int .i64 200] 3))
        have hsz := Kp.out.size
        replace HB := Lib.hid ((Below.heap_alloc v3 (.cells #[.int .i64 (-1), .int .i64 0, .int .i64 199, .int .i64 200] 3) _ (ltHb HB.out)).trans HB.out)
        replace Kp := Lib.hid (Kp.out.alloc hsz (.cells #[.int .i64 (-1), .int .i64 0, .int .i64 199, .int .i64 200] 3))
        have hrA : r < v3.heap.size := by have := hrl; omega
        clear hsz
        obtain ⟨bA, hbA⟩ : ∃ c, Hid (v3.heap.size = c) := ⟨_, Lib.hid rfl⟩
        rw [hbA.out] at HA hrA ⊢
        have hrl : r < (v3.alloc (.cells #[.int .i64 (-1), .int .i64 0, .int .i64 199, .int .i64 200] 3)).heap.size := R.out.lt
        generalize World.alloc v3 (.cells #[.int .i64 (-1), .int .i64 0, .int .i64 199, .int .i64 200] 3) = v4 at R Kp hrl HA HB ⊢
        clear hbA
        try simp only [Act.put, List.setIfInBounds_toArray, List.set_cons_zero, List.set_cons_succ]
        refine wpAnyH_take (i := 3) (oi := ⟨some 13, _, _, _, _, _⟩) (v := ?_) rfl (by kernel_rfl) (by kernel_rfl) (by kernel_rfl) (fun _ _ _ h => h) (Or.inl ⟨by rfl, ?_⟩) trivial ?_
        rotate_left 1
        · intro w hSw; (try dsimp only at hSw); go_simp; (try rw [if_pos (by omega)]); try (with_reducible rfl)
        try simp only [Act.put, List.setIfInBounds_toArray, List.set_cons_zero, List.set_cons_succ]
        refine wpAnyH_ready (rs := [4]) (by kernel_rfl) (by simp) ?_
        refine AllReadyH.cons (o := ⟨some 14, _, _, _, _, _⟩) rfl (fun K hK => ?_) AllReadyH.nil
        obtain ⟨zA, hzA, z0A, z1A⟩ := lit4a HA.out hja
        go_simp
        refine hK.out _ _ trivial (fun _ => ?_)
        clear hK K hzA
        try simp only [Act.put, List.setIfInBounds_toArray, List.set_cons_zero, List.set_cons_succ]
        refine wpAnyH_take (i := 10) (oi := ⟨some 2, _, _, _, _, _⟩) (v := ?_) rfl (by kernel_rfl) (by kernel_rfl) (by kernel_rfl) (fun _ _ _ h => h) (Or.inl ⟨by rfl, ?_⟩) trivial ?_
        rotate_left 1
        · intro w hSw; (try dsimp only at hSw); go_simp; (try rw [if_pos (by omega)]); try (with_reducible rfl)
        try simp only [Act.put, List.setIfInBounds_toArray, List.set_cons_zero, List.set_cons_succ]
        refine wpAnyH_take (i := 11) (oi := ⟨some 3, _, _, _, _, _⟩) (v := ?_) rfl (by kernel_rfl) (by kernel_rfl) (by kernel_rfl) (fun _ _ _ h => h) (Or.inl ⟨by rfl, ?_⟩) trivial ?_
        rotate_left 1
        · intro w hSw; (try dsimp only at hSw); go_simp; (try rw [if_pos (by omega)]); try (with_reducible rfl)
        try simp only [Act.put, List.setIfInBounds_toArray, List.set_cons_zero, List.set_cons_succ]
        refine wpAnyH_done (by kernel_rfl) ?_ _
        try simp only [Act.put, List.setIfInBounds_toArray, List.set_cons_zero, List.set_cons_succ]
        go_wp2_with fail
        go_ret2
        exact ⟨⟨_, _, rfl, by omega, by omega, by omega, by omega⟩, Kp.out.below hr0⟩
      refine AllReadyH.cons (o := ⟨some 17, _, _, _, _, _⟩) rfl (fun K hK => ?_) AllReadyH.nil
      go_simp
      with_reducible refine (pick_any 4 r _ _ R.out (by omega)).mono ?_
      rintro e v2 ⟨yb, rfl, y0b, y1b, hr', hk⟩
      go_wp2_with fail
      refine hK.out _ _ trivial (fun _ => ?_)
      clear hK K
      replace y1b := y1b (by omega)
      obtain ⟨jb, rfl⟩ : ∃ j : Nat, yb = j := ⟨yb.toNat, by omega⟩
      have hjb : jb < 4 := by omega
      replace R := Lib.hid hr'
      replace Kp := Lib.hid (Kp.out.trans (hk.mono Kp.out.size))
      have hrl : r < v2.heap.size := R.out.lt
      clear hr' hk y0b y1b
      try simp only [Act.put, List.setIfInBounds_toArray, List.set_cons_zero, List.set_cons_succ]
      refine wpAnyH_ready (rs := [0, 5]) (by kernel_rfl) (by simp) ?_
      refine AllReadyH.cons (o := ⟨some 10, _, _, _, _, _⟩) rfl (fun K hK => ?_) ?_
      · go_simp
        refine hK.out _ _ trivial (fun _ => ?_)
        clear hK K
        have HA := Lib.hid (heap_alloc_new v2 (.cells #[.int .i64 (-1), .int .i64 0, .int .i64 199, .int .i64 200] 3))
        replace R := Lib.hid (R.out.alloc (.cells #[.int .i64 (-1), .int .i64 0, .int .i64 199, .int .i64 200] 3))
        have hsz := Kp.out.size
        replace Kp := Lib.hid (Kp.out.alloc hsz (.cells #[.int .i64 (-1), .int .i64 0, .int .i64 199, .int .i64 200] 3))
        have hrA : r < v2.heap.size := by have := hrl; omega
        clear hsz
        obtain ⟨bA, hbA⟩ : ∃ c, Hid (v2.heap.size = c) := ⟨_, Lib.hid rfl⟩
        rw [hbA.out] at HA hrA ⊢
        have hrl : r < (v2.alloc (.cells #[.int .i64 (-1), .int .i64 0, .int .i64 199, .int .i64 200] 3)).heap.size := R.out.lt
        generalize World.alloc v2 (.cells #[.int .i64 (-1), .int .i64 0, .int .i64 199, .int .i64 200] 3) = v3 at R Kp hrl HA  ⊢
        clear hbA
        try simp only [Act.put, List.setIfInBounds_toArray, List.set_cons_zero, List.set_cons_succ]
        refine wpAnyH_take (i := 3) (oi := ⟨some 13, _, _, _, _, _⟩) (v := ?_) rfl (by kernel_rfl) (by kernel_rfl) (by kernel_rfl) (fun _ _ _ h => h) (Or.inl ⟨by rfl, ?_⟩) trivial ?_
        rotate_left 1
        · intro w hSw; (try dsimp only at hSw); go_simp; (try rw [if_pos (by omega)]); try (with_reducible rfl)
        try simp only [Act.put, List.setIfInBounds_toArray, List.set_cons_zero, List.set_cons_succ]
        refine wpAnyH_ready (rs := [4, 5]) (by kernel_rfl) (by simp) ?_
        refine AllReadyH.cons (o := ⟨some 14, _, _, _, _, _⟩) rfl (fun K hK => ?_) ?_
        · obtain ⟨zA, hzA, z0A, z1A⟩ := lit4a HA.out hja
          go_simp
          refine hK.out _ _ trivial (fun _ => ?_)
          clear hK K hzA
          try simp only [Act.put, List.setIfInBounds_toArray, List.set_cons_zero, List.set_cons_succ]
          refine wpAnyH_take (i := 10) (oi := ⟨some 2, _, _, _, _, _⟩) (v := ?_) rfl (by kernel_rfl) (by kernel_rfl) (by kernel_rfl) (fun _ _ _ h => h) (Or.inl ⟨by rfl, ?_⟩) trivial ?_
          rotate_left 1
          · intro w hSw; (try dsimp only at hSw); go_simp; (try rw [if_pos (by omega)]); try (with_reducible rfl)
          try simp only [Act.put, List.setIfInBounds_toArray, List.set_cons_zero, List.set_cons_succ]
          refine wpAnyH_ready (rs := [5]) (by kernel_rfl) (by simp) ?_
          refine AllReadyH.cons (o := ⟨some 15, _, _, _, _, _⟩) rfl (fun K hK => ?_) AllReadyH.nil
          go_simp
          refine hK.out _ _ trivial (fun _ => ?_)
          clear hK K
          have HB := Lib.hid (heap_alloc_new v3 (.cells #[.int .i64 (-1), .int .i64 4, .int .i64 5, .int .i64 0] 3))
          replace R := Lib.hid (R.out.alloc (.cells #[.int .i64 (-1), .int .i64 4, .int .i64 5, .int .i64 0] 3))
          have hsz := Kp.out.size
          replace HA := Lib.hid ((Below.heap_alloc v3 (.cells #[.int .i64 (-1), .int .i64 4, .int .i64 5, .int .i64 0] 3) _ (ltHb HA.out)).trans HA.out)
          replace Kp := Lib.hid (Kp.out.alloc hsz (.cells #[.int .i64 (-1), .int .i64 4, .int .i64 5, .int .i64 0] 3))
          have hrB : r < v3.heap.size := by have := hrl; omega
          clear hsz
          obtain ⟨bB, hbB⟩ : ∃ c, Hid (v3.heap.size = c) := ⟨_, Lib.hid rfl⟩
          rw [hbB.out] at HB hrB ⊢
          have hrl : r < (v3.alloc (.cells #[.int .i64 (-1), .int .i64 4, .int .i64 5, .int .i64 0] 3)).heap.size := R.out.lt
          generalize World.alloc v3 (.cells #[.int .i64 (-1), .int .i64 4, .int .i64 5, .int .i64 0] 3) = v4 at R Kp hrl HB HA ⊢
          clear hbB
          try simp only [Act.put, List.setIfInBounds_toArray, List.set_cons_zero, List.set_cons_succ]
          refine wpAnyH_take (i := 8) (oi := ⟨some 18, _, _, _, _, _⟩) (v := ?_) rfl (by kernel_rfl) (by kernel_rfl) (by kernel_rfl) (fun _ _ _ h => h) (Or.inl ⟨by rfl, ?_⟩) trivial ?_
          rotate_left 1
          · intro w hSw; (try dsimp only at hSw); go_simp; (try rw [if_pos (by omega)]); try (with_reducible rfl)
          try simp only [Act.put, List.setIfInBounds_toArray, List.set_cons_zero, List.set_cons_succ]
          refine wpAnyH_ready (rs := [9]) (by kernel_rfl) (by simp) ?_
          refine AllReadyH.cons (o := ⟨some 19, _, _, _, _, _⟩) rfl (fun K hK => ?_) AllReadyH.nil
          obtain ⟨zB, hzB, z0B, z1B⟩ := lit4b HB.out hjb
          go_simp
          refine hK.out _ _ trivial (fun _ => ?_)
          clear hK K hzB
          try simp only [Act.put, List.setIfInBounds_toArray, List.set_cons_zero, List.set_cons_succ]
          refine wpAnyH_take (i := 11) (oi := ⟨some 3, _, _, _, _, _⟩) (v := ?_) rfl (by kernel_rfl) (by kernel_rfl) (by kernel_rfl) (fun _ _ _ h => h) (Or.inl ⟨by rfl, ?_⟩) trivial ?_
          rotate_left 1
          · intro w hSw; (try dsimp only at hSw); go_simp; (try rw [if_pos (by omega)]); try (with_reducible rfl)
          try simp only [Act.put, List.setIfInBounds_toArray, List.set_cons_zero, List.set_cons_succ]
          refine wpAnyH_done (by kernel_rfl) ?_ _
          try simp only [Act.put, List.setIfInBounds_toArray, List.set_cons_zero, List.set_cons_succ]
          go_wp2_with fail
          go_ret2
          exact ⟨⟨_, _, rfl, by omega, by omega, by omega, by omega⟩, Kp.out.below hr0⟩
        refine AllReadyH.cons (o := ⟨some 15, _, _, _, _, _⟩) rfl (fun K hK => ?_) AllReadyH.nil
        go_simp
        refine hK.out _ _ trivial (fun _ => ?_)
        clear hK K
        have HB := Lib.hid (heap_alloc_new v3 (.cells #[.int .i64 (-1), .int .i64 4, .int .i64 5, .int .i64 0] 3))
        replace R := Lib.hid (R.out.alloc (.cells #[.int .i64 (-1), .int .i64 4, .int .i64 5, .int .i64 0] 3))
        have hsz := Kp.out.size
        replace HA := Lib.hid ((Below.heap_alloc v3 (.cells #[.int .i64 (-1), .int .i64 4, .int .i64 5, .int .i64 0] 3) _ (ltHb HA.out)).trans HA.out)
        replace Kp := Lib.hid (Kp.out.alloc hsz (.cells #[.int .i64 (-1), .int .i64 4, .int .i64 5, .int .i64 0] 3))
        have hrB : r < v3.heap.size := by have := hrl; omega
        clear hsz
        obtain ⟨bB, hbB⟩ : ∃ c, Hid (v3.heap.size = c) := ⟨_, Lib.hid rfl⟩
        rw [hbB.out] at HB hrB ⊢
        have hrl : r < (v3.alloc (.cells #[.int .i64 (-1), .int .i64 4, .int .i64 5, .int .i64 0] 3)).heap.size := R.out.lt
        generalize World.alloc v3 (.cells #[.int .i64 (-1), .int .i64 4, .int .i64 5, .int .i64 0] 3) = v4 at R Kp hrl HB HA ⊢
        clear hbB
        try simp only [Act.put, List.setIfInBounds_toArray, List.set_cons_zero, List.set_cons_succ]
        refine wpAnyH_take (i := 8) (oi := ⟨some 18, _, _, _, _, _⟩) (v := ?_) rfl (by kernel_rfl) (by kernel_rfl) (by kernel_rfl) (fun _ _ _ h => h) (Or.inl ⟨by rfl, ?_⟩) trivial ?_
        rotate_left 1
        · intro w hSw; (try dsimp only at hSw); go_simp; (try rw [if_pos (by omega)]); try (with_reducible rfl)
        try simp only [Act.put, List.setIfInBounds_toArray, List.set_cons_zero, List.set_cons_succ]
        refine wpAnyH_ready (rs := [4, 9]) (by kernel_rfl) (by simp) ?_
        refine AllReadyH.cons (o := ⟨some 14, _, _, _, _, _⟩) rfl (fun K hK => ?_) ?_
        · obtain ⟨zA, hzA, z0A, z1A⟩ := lit4a HA.out hja
          go_simp
          refine hK.out _ _ trivial (fun _ => ?_)
          clear hK K hzA
          try simp only [Act.put, List.setIfInBounds_toArray, List.set_cons_zero, List.set_cons_succ]
          refine wpAnyH_take (i := 10) (oi := ⟨some 2, _, _, _, _, _⟩) (v := ?_) rfl (by kernel_rfl) (by kernel_rfl) (by kernel_rfl) (fun _ _ _ h => h) (Or.inl ⟨by rfl, ?_⟩) trivial ?_
          rotate_left 1
          · intro w hSw; (try dsimp only at hSw); go_simp; (try rw [if_pos (by omega)]); try (with_reducible rfl)
          try simp only [Act.put, List.setIfInBounds_toArray, List.set_cons_zero, List.set_cons_succ]
          refine wpAnyH_ready (rs := [9]) (by kernel_rfl) (by simp) ?_
          refine AllReadyH.cons (o := ⟨some 19, _, _, _, _, _⟩) rfl (fun K hK => ?_) AllReadyH.nil
          obtain ⟨zB, hzB, z0B, z1B⟩ := lit4b HB.out hjb
          go_simp
          refine hK.out _ _ trivial (fun _ => ?_)
          clear hK K hzB
          try simp only [Act.put, List.setIfInBounds_toArray, List.set_cons_zero, List.set_cons_succ]
          refine wpAnyH_take (i := 11) (oi := ⟨some 3, _, _, _, _, _⟩) (v := ?_) rfl (by kernel_rfl) (by kernel_rfl) (by kernel_rfl) (fun _ _ _ h => h) (Or.inl ⟨by rfl, ?_⟩) trivial ?_
          rotate_left 1
          · intro w hSw; (try dsimp only at hSw); go_simp; (try rw [if_pos (by omega)]); try (with_reducible rfl)
          try simp only [Act.put, List.setIfInBounds_toArray, List.set_cons_zero, List.set_cons_succ]
          refine wpAnyH_done (by kernel_rfl) ?_ _
          try simp only [Act.put, List.setIfInBounds_toArray, List.set_cons_zero, List.set_cons_succ]
          go_wp2_with fail
          go_ret2
          exact ⟨⟨_, _, rfl, by omega, by omega, by omega, by omega⟩, Kp.out.below hr0⟩
        refine AllReadyH.cons (o := ⟨some 19, _, _, _, _, _⟩) rfl (fun K hK => ?_) AllReadyH.nil
        obtain ⟨zB, hzB, z0B, z1B⟩ := lit4b HB.out hjb
        go_simp
        refine hK.out _ _ trivial (fun _ => ?_)
        clear hK K hzB
        try simp only [Act.put, List.setIfInBounds_toArray, List.set_cons_zero, List.set_cons_succ]
        refine wpAnyH_ready (rs := [4]) (by kernel_rfl) (by simp) ?_
        refine AllReadyH.cons (o := ⟨some 14, _, _, _, _, _⟩) rfl (fun K hK => ?_) AllReadyH.nil
        obtain ⟨zA, hzA, z0A, z1A⟩ := lit4a HA.out hja
        go_simp
        refine hK.out _ _ trivial (fun _ => ?_)
        clear hK K hzA
        try simp only [Act.put, List.setIfInBounds_toArray, List.set_cons_zero, List.set_cons_succ]
        refine wpAnyH_take (i := 10) (oi := ⟨some 2, _, _, _, _, _⟩) (v := ?_) rfl (by kernel_rfl) (by kernel_rfl) (by kernel_rfl) (fun _ _ _ h => h) (Or.inl ⟨by rfl, ?_⟩) trivial ?_
        rotate_left 1
        · intro w hSw; (try dsimp only at hSw); go_simp; (try rw [if_pos (by omega)]); try (with_reducible rfl)
        try simp only [Act.put, List.setIfInBounds_toArray, List.set_cons_zero, List.set_cons_succ]
        refine wpAnyH_take (i := 11) (oi := ⟨some 3, _, _, _, _, _⟩) (v := ?_) rfl (by kernel_rfl) (by kernel_rfl) (by kernel_rfl) (fun _ _ _ h => h) (Or.inl ⟨by rfl, ?_⟩) trivial ?_
        rotate_left 1
        · intro w hSw; (try dsimp only at hSw); go_simp; (try rw [if_pos (by omega)]); try (with_reducible rfl)
        try simp only [Act.put, List.setIfInBounds_toArray, List.set_cons_zero, List.set_cons_succ]
        refine wpAnyH_done (by kernel_rfl) ?_ _
        try simp only [Act.put, List.setIfInBounds_toArray, List.set_cons_zero, List.set_cons_succ]
        go_wp2_with fail
        go_ret2
        exact ⟨⟨_, _, rfl, by omega, by omega, by omega, by omega⟩, Kp.out.below hr0⟩
      refine AllReadyH.cons (o := ⟨some 15, _, _, _, _, _⟩) rfl (fun K hK => ?_) AllReadyH.nil
      go_simp
      refine hK.out _ _ trivial (fun _ => ?_)
      clear hK K
      have HB := Lib.hid (heap_alloc_new v2 (.cells #[.int .i64 (-1), .int .i64 4, .int .i64 5, .int .i64 0] 3))
      replace R := Lib.hid (R.out.alloc (.cells #[.int .i64 (-1), .int .i64 4, .int .i64 5, .int .i64 0] 3))
      have hsz := Kp.out.size
      replace Kp := Lib.hid (Kp.out.alloc hsz (.cells #[.int .i64 (-1), .int .i64 4, .int .i64 5, .int .i64 0] 3))
      have hrB : r < v2.heap.size := by have := hrl; omega
      clear hsz
      obtain ⟨bB, hbB⟩ : ∃ c, Hid (v2.heap.size = c) := ⟨_, Lib.hid rfl⟩
      rw [hbB.out] at HB hrB ⊢
      have hrl : r < (v2.alloc (.cells #[.int .i64 (-1), .int .i64 4, .int .i64 5, .int .i64 0] 3)).heap.size := R.out.lt
      generalize World.alloc v2 (.cells #[.int .i64 (-1), .int .i64 4, .int .i64 5, .int .i64 0] 3) = v3 at R Kp hrl HB  ⊢
      clear hbB
      try simp only [Act.put, List.setIfInBounds_toArray, List.set_cons_zero, List.set_cons_succ]
      refine wpAnyH_take (i := 8) (oi := ⟨some 18, _, _, _, _, _⟩) (v := ?_) rfl (by kernel_rfl) (by kernel_rfl) (by kernel_rfl) (fun _ _ _ h => h) (Or.inl ⟨by rfl, ?_⟩) trivial ?_
      rotate_left 1
      · intro w hSw; (try dsimp only at hSw); go_simp; (try rw [if_pos (by omega)]); try (with_reducible rfl)
      try simp only [Act.put, List.setIfInBounds_toArray, List.set_cons_zero, List.set_cons_succ]
      refine wpAnyH_ready (rs := [0, 9]) (by kernel_rfl) (by simp) ?_
      refine AllReadyH.cons (o := ⟨some 10, _, _, _, _, _⟩) rfl (fun K hK => ?_) ?_
      · go_simp
        refine hK.out _ _ trivial (fun _ => ?_)
        clear hK K
        have HA := Lib.hid (heap_alloc_new v3 (.cells #[.int .i64 (-1), .int .i64 0, .int .i64 199, .int .i64 200] 3))
        replace R := Lib.hid (R.out.alloc (.cells #[.int .i64 (-1), .int .i64 0, .int .i64 199, .int .i64 200] 3))
        have hsz := Kp.out.size
        replace HB := Lib.hid ((Below.heap_alloc v3 (.cells #[.int .i64 (-1), .int .i64 0, .int .i64 199, .int .i64 200] 3) _ (ltHb HB.out)).trans HB.out)
        replace Kp := Lib.hid (Kp.out.alloc hsz (.cells #[.int .i64 (-1), .int .i64 0, .int .i64 199, .int .i64 200] 3))
        have hrA : r < v3.heap.size := by have := hrl; omega
        clear hsz
        obtain ⟨bA, hbA⟩ : ∃ c, Hid (v3.heap.size = c) := ⟨_, Lib.hid rfl⟩
        rw [hbA.out] at HA hrA ⊢
        have hrl : r < (v3.alloc (.cells #[.int .i64 (-1), .int .i64 0, .int .i64 199, .int .i64 200] 3)).heap.size := R.out.lt
        generalize World.alloc v3 (.cells #[.int .i64 (-1), .int .i64 0, .int .i64 199, .int .i64 200] 3) = v4 at R Kp hrl HA HB ⊢
        clear hbA
        try simp only [Act.put, List.setIfInBounds_toArray, List.set_cons_zero, List.set_cons_succ]
        refine wpAnyH_take (i := 3) (oi := ⟨some 13, _, _, _, _, _⟩) (v := ?_) rfl (by kernel_rfl) (by kernel_rfl) (by kernel_rfl) (fun _ _ _ h => h) (Or.inl ⟨by rfl, ?_⟩) trivial ?_
        rotate_left 1
        · intro w hSw; (try dsimp only at hSw); go_simp; (try rw [if_pos (by omega)]); try (with_reducible rfl)
        try simp only [Act.put, List.setIfInBounds_toArray, List.set_cons_zero, List.set_cons_succ]
        refine wpAnyH_ready (rs := [4, 9]) (by kernel_rfl) (by simp) ?_
        refine AllReadyH.cons (o := ⟨some 14, _, _, _, _, _⟩) rfl (fun K hK => ?_) ?_
        · obtain ⟨zA, hzA, z0A, z1A⟩ := lit4a HA.out hja
          go_simp
          refine hK.out _ _ trivial (fun _ => ?_)
          clear hK K hzA
          try simp only [Act.put, List.setIfInBounds_toArray, List.set_cons_zero, List.set_cons_succ]
          refine wpAnyH_take (i := 10) (oi := ⟨some 2, _, _, _, _, _⟩) (v := ?_) rfl (by kernel_rfl) (by kernel_rfl) (by kernel_rfl) (fun _ _ _ h => h) (Or.inl ⟨by rfl, ?_⟩) trivial ?_
          rotate_left 1
          · intro w hSw; (try dsimp only at hSw); go_simp; (try rw [if_pos (by omega)]); try (with_reducible rfl)
          try simp only [Act.put, List.setIfInBounds_toArray, List.set_cons_zero, List.set_cons_succ]
          refine wpAnyH_ready (rs := [9]) (by kernel_rfl) (by simp) ?_
          refine AllReadyH.cons (o := ⟨some 19, _, _, _, _, _⟩) rfl (fun K hK => ?_) AllReadyH.nil
          obtain ⟨zB, hzB, z0B, z1B⟩ := lit4b HB.out hjb
          go_simp
          refine hK.out _ _ trivial (fun _ => ?_)
          clear hK K hzB
          try simp only [Act.put, List.setIfInBounds_toArray, List.set_cons_zero, List.set_cons_succ]
          refine wpAnyH_take (i := 11) (oi := ⟨some 3, _, _, _, _, _⟩) (v := ?_) rfl (by kernel_rfl) (by kernel_rfl) (by kernel_rfl) (fun _ _ _ h => h) (Or.inl ⟨by rfl, ?_⟩) trivial ?_
          rotate_left 1
          · intro w hSw; (try dsimp only at hSw); go_simp; (try rw [if_pos (by omega)]); try (with_reducible rfl)
          try simp only [Act.put, List.setIfInBounds_toArray, List.set_cons_zero, List.set_cons_succ]
          refine wpAnyH_done (by kernel_rfl) ?_ _
          try simp only [Act.put, List.setIfInBounds_toArray, List.set_cons_zero, List.set_cons_succ]
          go_wp2_with fail
          go_ret2
          exact ⟨⟨_, _, rfl, by omega, by omega, by omega, by omega⟩, Kp.out.below hr0⟩
        refine AllReadyH.cons (o := ⟨some 19, _, _, _, _, _⟩) rfl (fun K hK => ?_) AllReadyH.nil
        obtain ⟨zB, hzB, z0B, z1B⟩ := lit4b HB.out hjb
        go_simp
        refine hK.out _ _ trivial (fun _ => ?_)
        clear hK K hzB
        try simp only [Act.put, List.setIfInBounds_toArray, List.set_cons_zero, List.set_cons_succ]
        refine wpAnyH_ready (rs := [4]) (by kernel_rfl) (by simp) ?_
        refine AllReadyH.cons (o := ⟨some 14, _, _, _, _, _⟩) rfl (fun K hK => ?_) AllReadyH.nil
        obtain ⟨zA, hzA, z0A, z1A⟩ := lit4a HA.out hja
        go_simp
        refine hK.out _ _ trivial (fun _ => ?_)
        clear hK K hzA
        try simp only [Act.put, List.setIfInBounds_toArray, List.set_cons_zero, List.set_cons_succ]
        refine wpAnyH_take (i := 10) (oi := ⟨some 2, _, _, _, _, _⟩) (v := ?_) rfl (by kernel_rfl) (by kernel_rfl) (by kernel_rfl) (fun _ _ _ h => h) (Or.inl ⟨by rfl, ?_⟩) trivial ?_
        rotate_left 1
        · intro w hSw; (try dsimp only at hSw); go_simp; (try rw [if_pos (by omega)]); try (with_reducible rfl)
        try simp only [Act.put, List.setIfInBounds_toArray, List.set_cons_zero, List.set_cons_succ]
        refine wpAnyH_take (i := 11) (oi := ⟨some 3, _, _, _, _, _⟩) (v := ?_) rfl (by kernel_rfl) (by kernel_rfl) (by kernel_rfl) (fun _ _ _ h => h) (Or.inl ⟨by rfl, ?_⟩) trivial ?_
        rotate_left 1
        · intro w hSw; (try dsimp only at hSw); go_simp; (try rw [if_pos (by omega)]); try (with_reducible rfl)
        try simp only [Act.put, List.setIfInBounds_toArray, List.set_cons_zero, List.set_cons_succ]
        refine wpAnyH_done (by kernel_rfl) ?_ _
        try simp only [Act.put, List.setIfInBounds_toArray, List.set_cons_zero, List.set_cons_succ]
        go_wp2_with fail
        go_ret2
        exact ⟨⟨_, _, rfl, by omega, by omega, by omega, by omega⟩, Kp.out.below hr0⟩
      refine AllReadyH.cons (o := ⟨some 19, _, _, _, _, _⟩) rfl (fun K hK => ?_) AllReadyH.nil
      obtain ⟨zB, hzB, z0B, z1B⟩ := lit4b HB.out hjb
      go_simp
      refine hK.out _ _ trivial (fun _ => ?_)
      clear hK K hzB
      try simp only [Act.put, List.setIfInBounds_toArray, List.set_cons_zero, List.set_cons_succ]
      refine wpAnyH_ready (rs := [0]) (by kernel_rfl) (by simp) ?_
      refine AllReadyH.cons (o := ⟨some 10, _, _, _, _, _⟩) rfl (fun K hK => ?_) AllReadyH.nil
      go_simp
      refine hK.out _ _ trivial (fun _ => ?_)
      clear hK K
      have HA := Lib.hid (heap_alloc_new v3 (.cells #[.int .i64 (-1), .int .i64 0, .int .i64 199, .int .i64 200] 3))
      replace R := Lib.hid (R.out.alloc (.cells #[.int .i64 (-1), .int .i64 0, .int .i64 199, .int .i64 200] 3))
      have hsz := Kp.out.size
      replace HB := Lib.hid ((Below.heap_alloc v3 (.cells #[.int .i64 (-1), .int .i64 0, .int .i64 199, .int .i64 200] 3) _ (ltHb HB.out)).trans HB.out)
      replace Kp := Lib.hid (Kp.out.alloc hsz (.cells #[.int .i64 (-1), .int .i64 0, .int .i64 199, .int .i64 200] 3))
      have hrA : r < v3.heap.size := by have := hrl; omega
      clear hsz
      obtain ⟨bA, hbA⟩ : ∃ c, Hid (v3.heap.size = c) := ⟨_, Lib.hid rfl⟩
      rw [hbA.out] at HA hrA ⊢
      have hrl : r < (v3.alloc (.cells #[.int .i64 (-1), .int .i64 0, .int .i64 199, .int .i64 200] 3)).heap.size := R.out.lt
      generalize World.alloc v3 (.cells #[.int .i64 (-1), .int .i64 0, .int .i64 199, .int .i64 200] 3) = v4 at R Kp hrl HA HB ⊢
      clear hbA
      try simp only [Act.put, List.setIfInBounds_toArray, List.set_cons_zero, List.set_cons_succ]
      refine wpAnyH_take (i := 3) (oi := ⟨some 13, _, _, _, _, _⟩) (v := ?_) rfl (by kernel_rfl) (by kernel_rfl) (by kernel_rfl) (fun _ _ _ h => h) (Or.inl ⟨by rfl, ?_⟩) trivial ?_
      rotate_left 1
      · intro w hSw; (try dsimp only at hSw); go_simp; (try rw [if_pos (by omega)]); try (with_reducible rfl)
      try simp only [Act.put, List.setIfInBounds_toArray, List.set_cons_zero, List.set_cons_succ]
      refine wpAnyH_ready (rs := [4]) (by kernel_rfl) (by simp) ?_
      refine AllReadyH.cons (o := ⟨some 14, _, _, _, _, _⟩) rfl (fun K hK => ?_) AllReadyH.nil
      obtain ⟨zA, hzA, z0A, z1A⟩ := lit4a HA.out hja
      go_simp
      refine hK.out _ _ trivial (fun _ => ?_)
      clear hK K hzA
      try simp only [Act.put, List.setIfInBounds_toArray, List.set_cons_zero, List.set_cons_succ]
      refine wpAnyH_take (i := 10) (oi := ⟨some 2, _, _, _, _, _⟩) (v := ?_) rfl (by kernel_rfl) (by kernel_rfl) (by kernel_rfl) (fun _ _ _ h => h) (Or.inl ⟨by rfl, ?_⟩) trivial ?_
      rotate_left 1
      · intro w hSw; (try dsimp only at hSw); go_simp; (try rw [if_pos (by omega)]); try (with_reducible rfl)
      try simp only [Act.put, List.setIfInBounds_toArray, List.set_cons_zero, List.set_cons_succ]
      refine wpAnyH_take (i := 11) (oi := ⟨some 3, _, _, _, _, _⟩) (v := ?_) rfl (by kernel_rfl) (by kernel_rfl) (by kernel_rfl) (fun _ _ _ h => h) (Or.inl ⟨by rfl, ?_⟩) trivial ?_
      rotate_left 1
      · intro w hSw; (try dsimp only at hSw); go_simp; (try rw [if_pos (by omega)]); try (with_reducible rfl)
      try simp only [Act.put, List.setIfInBounds_toArray, List.set_cons_zero, List.set_cons_succ]
      refine wpAnyH_done (by kernel_rfl) ?_ _
      try simp only [Act.put, List.setIfInBounds_toArray, List.set_cons_zero, List.set_cons_succ]
      go_wp2_with fail
      go_ret2
      exact ⟨⟨_, _, rfl, by omega, by omega, by omega, by omega⟩, Kp.out.below hr0⟩
    refine AllReadyH.cons (o := ⟨some 15, _, _, _, _, _⟩) rfl (fun K hK => ?_) AllReadyH.nil
    go_simp
    refine hK.out _ _ trivial (fun _ => ?_)
    clear hK K
    have HB := Lib.hid (heap_alloc_new v0 (.cells #[.int .i64 (-1), .int .i64 4, .int .i64 5, .int .i64 0] 3))
    replace R := Lib.hid (R.out.alloc (.cells #[.int .i64 (-1), .int .i64 4, .int .i64 5, .int .i64 0] 3))
    have hsz := Kp.out.size
    replace Kp := Lib.hid (Kp.out.alloc hsz (.cells #[.int .i64 (-1), .int .i64 4, .int .i64 5, .int .i64 0] 3))
    have hrB : r < v0.heap.size := by have := hrl; omega
    clear hsz
    obtain ⟨bB, hbB⟩ : ∃ c, Hid (v0.heap.size = c) := ⟨_, Lib.hid rfl⟩
    rw [hbB.out] at HB hrB ⊢
    have hrl : r < (v0.alloc (.cells #[.int .i64 (-1), .int .i64 4, .int .i64 5, .int .i64 0] 3)).heap.size := R.out.lt
    generalize World.alloc v0 (.cells #[.int .i64 (-1), .int .i64 4, .int .i64 5, .int .i64 0] 3) = v1 at R Kp hrl HB  ⊢
    clear hbB
    try simp only [Act.put, List.setIfInBounds_toArray, List.set_cons_zero, List.set_cons_succ]
    refine wpAnyH_ready (rs := [0, 2]) (by kernel_rfl) (by simp) ?_
    refine AllReadyH.cons (o := ⟨some 10, _, _, _, _, _⟩) rfl (fun K hK => ?_) ?_
    · go_simp
      refine hK.out _ _ trivial (fun _ => ?_)
      clear hK K
      have HA := Lib.hid (heap_alloc_new v1 (.cells #[.int .i64 (-1), .int .i64 0, .int .i64 199, .int .i64 200] 3))
      replace R := Lib.hid (R.out.alloc (.cells #[.int .i64 (-1), .int .i64 0, .int .i64 199, .int .i64 200] 3))
      have hsz := Kp.out.size
      replace HB := Lib.hid ((Below.heap_alloc v1 (.cells #[.int .i64 (-1), .int .i64 0, .int .i64 199, .int .i64 200] 3) _ (ltHb HB.out)).trans HB.out)
      replace Kp := Lib.hid (Kp.out.alloc hsz (.cells #[.int .i64 (-1), .int .i64 0, .int .i64 199, .int .i64 200] 3))
      have hrA : r < v1.heap.size := by have := hrl; omega
      clear hsz
      obtain ⟨bA, hbA⟩ : ∃ c, Hid (v1.heap.size = c) := ⟨_, Lib.hid rfl⟩
      rw [hbA.out] at HA hrA ⊢
      have hrl : r < (v1.alloc (.cells #[.int .i64 (-1), .int .i64 0, .int .i64 199, .int .i64 200] 3)).heap.size := R.out.lt
      generalize World.alloc v1 (.cells #[.int .i64 (-1), .int .i64 0, .int .i64 199, .int .i64 200] 3) = v2 at R Kp hrl HA HB ⊢
      clear hbA
      try simp only [Act.put, List.setIfInBounds_toArray, List.set_cons_zero, List.set_cons_succ]
      refine wpAnyH_ready (rs := [2]) (by kernel_rfl) (by simp) ?_
      refine AllReadyH.cons (o := ⟨some 12, _, _, _, _, _⟩) rfl (fun K hK => ?_) AllReadyH.nil
      go_simp
      with_reducible refine (pick_any 4 r _ _ R.out (by omega)).mono ?_
      rintro e v3 ⟨ya, rfl, y0a, y1a, hr', hk⟩
      go_wp2_with fail
      refine hK.out _ _ trivial (fun _ => ?_)
      clear hK K
      replace y1a := y1a (by omega)
      obtain ⟨ja, rfl⟩ : ∃ j : Nat, ya = j := ⟨ya.toNat, by omega⟩
      have hja : ja < 4 := by omega
      replace R := Lib.hid hr'
      replace HB := Lib.hid ((hk.block _ (ltHb HB.out) (by omega)).trans HB.out)
      replace HA := Lib.hid ((hk.block _ (ltHb HA.out) (by omega)).trans HA.out)
      replace Kp := Lib.hid (Kp.out.trans (hk.mono Kp.out.size))
      have hrl : r < v3.heap.size := R.out.lt
      clear hr' hk y0a y1a
      try simp only [Act.put, List.setIfInBounds_toArray, List.set_cons_zero, List.set_cons_succ]
      refine wpAnyH_take (i := 3) (oi := ⟨some 13, _, _, _, _, _⟩) (v := ?_) rfl (by kernel_rfl) (by kernel_rfl) (by kernel_rfl) (fun _ _ _ h => h) (Or.inl ⟨by rfl, ?_⟩) trivial ?_
      rotate_left 1
      · intro w hSw; (try dsimp only at hSw); go_simp; (try rw [if_pos (by omega)]); try (with_reducible rfl)
      try simp only [Act.put, List.setIfInBounds_toArray, List.set_cons_zero, List.set_cons_succ]
      refine wpAnyH_ready (rs := [4, 7]) (by kernel_rfl) (by simp) ?_
      refine AllReadyH.cons (o := ⟨some 14, _, _, _, _, _⟩) rfl (fun K hK => ?_) ?_
      · obtain ⟨zA, hzA, z0A, z1A⟩ := lit4a HA.out hja
        go_simp
        refine hK.out _ _ trivial (fun _ => ?_)
        clear hK K hzA
        try simp only [Act.put, List.setIfInBounds_toArray, List.set_cons_zero, List.set_cons_succ]
        refine wpAnyH_ready (rs := [7]) (by kernel_rfl) (by simp) ?_
        refine AllReadyH.cons (o := ⟨some 17, _, _, _, _, _⟩) rfl (fun K hK => ?_) AllReadyH.nil
        go_simp
        with_reducible refine (pick_any 4 r _ _ R.out (by omega)).mono ?_
        rintro e v4 ⟨yb, rfl, y0b, y1b, hr', hk⟩
        go_wp2_with fail
        refine hK.out _ _ trivial (fun _ => ?_)
        clear hK K
        replace y1b := y1b (by omega)
        obtain ⟨jb, rfl⟩ : ∃ j : Nat, yb = j := ⟨yb.toNat, by omega⟩
        have hjb : jb < 4 := by omega
        replace R := Lib.hid hr'
        replace HB := Lib.hid ((hk.block _ (ltHb HB.out) (by omega)).trans HB.out)
        replace HA := Lib.hid ((hk.block _ (ltHb HA.out) (by omega)).trans HA.out)
        replace Kp := Lib.hid (Kp.out.trans (hk.mono Kp.out.size))
        have hrl : r < v4.heap.size := R.out.lt
        clear hr' hk y0b y1b
        try simp only [Act.put, List.setIfInBounds_toArray, List.set_cons_zero, List.set_cons_succ]
        refine wpAnyH_take (i := 8) (oi := ⟨some 18, _, _, _, _, _⟩) (v := ?_) rfl (by kernel_rfl) (by kernel_rfl) (by kernel_rfl) (fun _ _ _ h => h) (Or.inl ⟨by rfl, ?_⟩) trivial ?_
        rotate_left 1
        · intro w hSw; (try dsimp only at hSw); go_simp; (try rw [if_pos (by omega)]); try (with_reducible rfl)
        try simp only [Act.put, List.setIfInBounds_toArray, List.set_cons_zero, List.set_cons_succ]
        refine wpAnyH_take (i := 10) (oi := ⟨some 2, _, _, _, _, _⟩) (v := ?_) rfl (by kernel_rfl) (by kernel_rfl) (by kernel_rfl) (fun _ _ _ h => h) (Or.inl ⟨by rfl, ?_⟩) trivial ?_
        rotate_left 1
        · intro w hSw; (try dsimp only at hSw); go_simp; (try rw [if_pos (by omega)]); try (with_reducible rfl)
        try simp only [Act.put, List.setIfInBounds_toArray, List.set_cons_zero, List.set_cons_succ]
        refine wpAnyH_ready (rs := [9]) (by kernel_rfl) (by simp) ?_
        refine AllReadyH.cons (o := ⟨some 19, _, _, _, _, _⟩) rfl (fun K hK => ?_) AllReadyH.nil
        obtain ⟨zB, hzB, z0B, z1B⟩ := lit4b HB.out hjb
        go_simp
        refine hK.out _ _ trivial (fun _ => ?_)
        clear hK K hzB
        try simp only [Act.put, List.setIfInBounds_toArray, List.set_cons_zero, List.set_cons_succ]
        refine wpAnyH_take (i := 11) (oi := ⟨some 3, _, _, _, _, _⟩) (v := ?_) rfl (by kernel_rfl) (by kernel_rfl) (by kernel_rfl) (fun _ _ _ h => h) (Or.inl ⟨by rfl, ?_⟩) trivial ?_
        rotate_left 1
        · intro w hSw; (try dsimp only at hSw); go_simp; (try rw [if_pos (by omega)]); try (with_reducible rfl)
        try simp only [Act.put, List.setIfInBounds_toArray, List.set_cons_zero, List.set_cons_succ]
        refine wpAnyH_done (by kernel_rfl) ?_ _
        try simp only [Act.put, List.setIfInBounds_toArray, List.set_cons_zero, List.set_cons_succ]
        go_wp2_with fail
        go_ret2
        exact ⟨⟨_, _, rfl, by omega, by omega, by omega, by omega⟩, Kp.out.below hr0⟩
      refine AllReadyH.cons (o := ⟨some 17, _, _, _, _, _⟩) rfl (fun K hK => ?_) AllReadyH.nil
      go_simp
      with_reducible refine (pick_any 4 r _ _ R.out (by omega)).mono ?_
      rintro e v4 ⟨yb, rfl, y0b, y1b, hr', hk⟩
      go_wp2_with fail
      refine hK.out _ _ trivial (fun _ => ?_)
      clear hK K
      replace y1b := y1b (by omega)
      obtain ⟨jb, rfl⟩ : ∃ j : Nat, yb = j := ⟨yb.toNat, by omega⟩
      have hjb : jb < 4 := by omega
      replace R := Lib.hid hr'
      replace HB := Lib.hid ((hk.block _ (ltHb HB.out) (by omega)).trans HB.out)
      replace HA := Lib.hid ((hk.block _ (ltHb HA.out) (by omega)).trans HA.out)
      replace Kp := Lib.hid (Kp.out.trans (hk.mono Kp.out.size))
      have hrl : r < v4.heap.size := R.out.lt
      clear hr' hk y0b y1b
      try simp only [Act.put, List.setIfInBounds_toArray, List.set_cons_zero, List.set_cons_succ]
      refine wpAnyH_take (i := 8) (oi := ⟨some 18, _, _, _, _, _⟩) (v := ?_) rfl (by kernel_rfl) (by kernel_rfl) (by kernel_rfl) (fun _ _ _ h => h) (Or.inl ⟨by rfl, ?_⟩) trivial ?_
      rotate_left 1
      · intro w hSw; (try dsimp only at hSw); go_simp; (try rw [if_pos (by omega)]); try (with_reducible rfl)
      try simp only [Act.put, List.setIfInBounds_toArray, List.set_cons_zero, List.set_cons_succ]
      refine wpAnyH_ready (rs := [4, 9]) (by kernel_rfl) (by simp) ?_
      refine AllReadyH.cons (o := ⟨some 14, _, _, _, _, _⟩) rfl (fun K hK => ?_) ?_
      · obtain ⟨zA, hzA, z0A, z1A⟩ := lit4a HA.out hja
        go_simp
        refine hK.out _ _ trivial (fun _ => ?_)
        clear hK K hzA
        try simp only [Act.put, List.setIfInBounds_toArray, List.set_cons_zero, List.set_cons_succ]
        refine wpAnyH_take (i := 10) (oi := ⟨some 2, _, _, _, _, _⟩) (v := ?_) rfl (by kernel_rfl) (by kernel_rfl) (by kernel_rfl) (fun _ _ _ h => h) (Or.inl ⟨by rfl, ?_⟩) trivial ?_
        rotate_left 1
        · intro w hSw; (try dsimp only at hSw); go_simp; (try rw [if_pos (by omega)]); try (with_reducible rfl)
        try simp only [Act.put, List.setIfInBounds_toArray, List.set_cons_zero, List.set_cons_succ]
        refine wpAnyH_ready (rs := [9]) (by kernel_rfl) (by simp) ?_
        refine AllReadyH.cons (o := ⟨some 19, _, _, _, _, _⟩) rfl (fun K hK => ?_) AllReadyH.nil
        obtain ⟨zB, hzB, z0B, z1B⟩ := lit4b HB.out hjb
        go_simp
        refine hK.out _ _ trivial (fun _ => ?_)
        clear hK K hzB
        try simp only [Act.put, List.setIfInBounds_toArray, List.set_cons_zero, List.set_cons_succ]
        refine wpAnyH_take (i := 11) (oi := ⟨some 3, _, _, _, _, _⟩) (v := ?_) rfl (by kernel_rfl) (by kernel_rfl) (by kernel_rfl) (fun _ _ _ h => h) (Or.inl ⟨by rfl, ?_⟩) trivial ?_
        rotate_left 1
        · intro w hSw; (try dsimp only at hSw); go_simp; (try rw [if_pos (by omega)]); try (with_reducible rfl)
        try simp only [Act.put, List.setIfInBounds_toArray, List.set_cons_zero, List.set_cons_succ]
        refine wpAnyH_done (by kernel_rfl) ?_ _
        try simp only [Act.put, List.setIfInBounds_toArray, List.set_cons_zero, List.set_cons_succ]
        go_wp2_with fail
        go_ret2
        exact ⟨⟨_, _, rfl, by omega, by omega, by omega, by omega⟩, Kp.out.below hr0⟩
      refine AllReadyH.cons (o := ⟨some 19, _, _, _, _, _⟩) rfl (fun K hK => ?_) AllReadyH.nil
      obtain ⟨zB, hzB, z0B, z1B⟩ := lit4b HB.out hjb
      go_simp
      refine hK.out _ _ trivial (fun _ => ?_)
      clear hK K hzB
      try simp only [Act.put, List.setIfInBounds_toArray, List.set_cons_zero, List.set_cons_succ]
      refine wpAnyH_ready (rs := [4]) (by kernel_rfl) (by simp) ?_
      refine AllReadyH.cons (o := ⟨some 14, _, _, _, _, _⟩) rfl (fun K hK => ?_) AllReadyH.nil
      obtain ⟨zA, hzA, z0A, z1A⟩ := lit4a HA.out hja
      go_simp
      refine hK.out _ _ trivial (fun _ => ?_)
      clear hK K hzA
      try simp only [Act.put, List.setIfInBounds_toArray, List.set_cons_zero, List.set_cons_succ]
      refine wpAnyH_take (i := 10) (oi := ⟨some 2, _, _, _, _, _⟩) (v := ?_) rfl (by kernel_rfl) (by kernel_rfl) (by kernel_rfl) (fun _ _ _ h => h) (Or.inl ⟨by rfl, ?_⟩) trivial ?_
      rotate_left 1
      · intro w hSw; (try dsimp only at hSw); go_simp; (try rw [if_pos (by omega)]); try (with_reducible rfl)
      try simp only [Act.put, List.setIfInBounds_toArray, List.set_cons_zero, List.set_cons_succ]
      refine wpAnyH_take (i := 11) (oi := ⟨some 3, _, _, _, _, _⟩) (v := ?_) rfl (by kernel_rfl) (by kernel_rfl) (by kernel_rfl) (fun _ _ _ h => h) (Or.inl ⟨by rfl, ?_⟩) trivial ?_
      rotate_left 1
      · intro w hSw; (try dsimp only at hSw); go_simp; (try rw [if_pos (by omega)]); try (with_reducible rfl)
      try simp only [Act.put, List.setIfInBounds_toArray, List.set_cons_zero, List.set_cons_succ]
      refine wpAnyH_done (by kernel_rfl) ?_ _
      try simp only [Act.put, List.setIfInBounds_toArray, List.set_cons_zero, List.set_cons_succ]
      go_wp2_with fail
      go_ret2
      exact ⟨⟨_, _, rfl, by omega, by omega, by omega, by omega⟩, Kp.out.below hr0⟩
    refine AllReadyH.cons (o := ⟨some 12, _, _, _, _, _⟩) rfl (fun K hK => ?_) AllReadyH.nil
    go_simp
    with_reducible refine (pick_any 4 r _ _ R.out (by omega)).mono ?_
    rintro e v2 ⟨ya, rfl, y0a, y1a, hr', hk⟩
    go_wp2_with fail
    refine hK.out _ _ trivial (fun _ => ?_)
    clear hK K
    replace y1a := y1a (by omega)
    obtain ⟨ja, rfl⟩ : ∃ j : Nat, ya = j := ⟨ya.toNat, by omega⟩
    have hja : ja < 4 := by omega
    replace R := Lib.hid hr'
    replace HB := Lib.hid ((hk.block _ (ltHb HB.out) (by omega)).trans HB.out)
    replace Kp := Lib.hid (Kp.out.trans (hk.mono Kp.out.size))
    have hrl : r < v2.heap.size := R.out.lt
    clear hr' hk y0a y1a
    try simp only [Act.put, List.setIfInBounds_toArray, List.set_cons_zero, List.set_cons_succ]
    refine wpAnyH_ready (rs := [0, 7]) (by kernel_rfl) (by simp) ?_
    refine AllReadyH.cons (o := ⟨some 10, _, _, _, _, _⟩) rfl (fun K hK => ?_) ?_
    · go_simp
      refine hK.out _ _ trivial (fun _ => ?_)
      clear hK K
      have HA := Lib.hid (heap_alloc_new v2 (.cells #[.int .i64 (-1), .int .i64 0, .int .i64 199, .int .i64 200] 3))
      replace R := Lib.hid (R.out.alloc (.cells #[.int .i64 (-1), .int .i64 0, .int .i64 199, .int .i64 200] 3))
      have hsz := Kp.out.size
      replace HB := Lib.hid ((Below.heap_alloc v2 (.cells #[.int .i64 (-1), .int .i64 0, .int .i64 199, .int .i64 200] 3) _ (ltHb HB.out)).trans HB.out)
      replace Kp := Lib.hid (Kp.out.alloc hsz (.cells #[.int .i64 (-1), .int .i64 0, .int .i64 199, .int .i64 200] 3))
      have hrA : r < v2.heap.size := by have := hrl; omega
      clear hsz
      obtain ⟨bA, hbA⟩ : ∃ c, Hid (v2.heap.size = c) := ⟨_, Lib.hid rfl⟩
      rw [hbA.out] at HA hrA ⊢
      have hrl : r < (v2.alloc (.cells #[.int .i64 (-1), .int .i64 0, .int .i64 199, .int .i64 200] 3)).heap.size := R.out.lt
      generalize World.alloc v2 (.cells #[.int .i64 (-1), .int .i64 0, .int .i64 199, .int .i64 200] 3) = v3 at R Kp hrl HA HB ⊢
      clear hbA
      try simp only [Act.put, List.setIfInBounds_toArray, List.set_cons_zero, List.set_cons_succ]
      refine wpAnyH_take (i := 3) (oi := ⟨some 13, _, _, _, _, _⟩) (v := ?_) rfl (by kernel_rfl) (by kernel_rfl) (by kernel_rfl) (fun _ _ _ h => h) (Or.inl ⟨by rfl, ?_⟩) trivial ?_
      rotate_left 1
      · intro w hSw; (try dsimp only at hSw); go_simp; (try rw [if_pos (by omega)]); try (with_reducible rfl)
      try simp only [Act.put, List.setIfInBounds_toArray, List.set_cons_zero, List.set_cons_succ]
      refine wpAnyH_ready (rs := [4, 7]) (by kernel_rfl) (by simp) ?_
      refine AllReadyH.cons (o := ⟨some 14, _, _, _, _, _⟩) rfl (fun K hK => ?_) ?_
      · obtain ⟨zA, hzA, z0A, z1A⟩ := lit4a HA.out hja
        go_simp
        refine hK.out _ _ trivial (fun _ => ?_)
        clear hK K hzA
        try simp only [Act.put, List.setIfInBounds_toArray, List.set_cons_zero, List.set_cons_succ]
        refine wpAnyH_ready (rs := [7]) (by kernel_rfl) (by simp) ?_
        refine AllReadyH.cons (o := ⟨some 17, _, _, _, _, _⟩) rfl (fun K hK => ?_) AllReadyH.nil
        go_simp
        with_reducible refine (pick_any 4 r _ _ R.out (by omega)).mono ?_
        rintro e v4 ⟨yb, rfl, y0b, y1b, hr', hk⟩
        go_wp2_with fail
        refine hK.out _ _ trivial (fun _ => ?_)
        clear hK K
        replace y1b := y1b (by omega)
        obtain ⟨jb, rfl⟩ : ∃ j : Nat, yb = j := ⟨yb.toNat, by omega⟩
        have hjb : jb < 4 := by omega
        replace R := Lib.hid hr'
        replace HB := Lib.hid ((hk.block _ (ltHb HB.out) (by omega)).trans HB.out)
        replace HA := Lib.hid ((hk.block _ (ltHb HA.out) (by omega)).trans HA.out)
        replace Kp := Lib.hid (Kp.out.trans (hk.mono Kp.out.size))
        have hrl : r < v4.heap.size := R.out.lt
        clear hr' hk y0b y1b
        try simp only [Act.put, List.setIfInBounds_toArray, List.set_cons_zero, List.set_cons_succ]
        refine wpAnyH_take (i := 8) (oi := ⟨some 18, _, _, _, _, _⟩) (v := ?_) rfl (by kernel_rfl) (by kernel_rfl) (by kernel_rfl) (fun _ _ _ h => h) (Or.inl ⟨by rfl, ?_⟩) trivial ?_
        rotate_left 1
        · intro w hSw; (try dsimp only at hSw); go_simp; (try rw [if_pos (by omega)]); try (with_reducible rfl)
        try simp only [Act.put, List.setIfInBounds_toArray, List.set_cons_zero, List.set_cons_succ]
        refine wpAnyH_take (i := 10) (oi := ⟨some 2, _, _, _, _, _⟩) (v := ?_) rfl (by kernel_rfl) (by kernel_rfl) (by kernel_rfl) (fun _ _ _ h => h) (Or.inl ⟨by rfl, ?_⟩) trivial ?_
        rotate_left 1
        · intro w hSw; (try dsimp only at hSw); go_simp; (try rw [if_pos (by omega)]); try (with_reducible rfl)
        try simp only [Act.put, List.setIfInBounds_toArray, List.set_cons_zero, List.set_cons_succ]
        refine wpAnyH_ready (rs := [9]) (by kernel_rfl) (by simp) ?_
        refine AllReadyH.cons (o := ⟨some 19, _, _, _, _, _⟩) rfl (fun K hK => ?_) AllReadyH.nil
        obtain ⟨zB, hzB, z0B, z1B⟩ := lit4b HB.out hjb
        go_simp
        refine hK.out _ _ trivial (fun _ => ?_)
        clear hK K hzB
        try simp only [Act.put, List.setIfInBounds_toArray, List.set_cons_zero, List.set_cons_succ]
        refine wpAnyH_take (i := 11) (oi := ⟨some 3, _, _, _, _, _⟩) (v := ?_) rfl (by kernel_rfl) (by kernel_rfl) (by kernel_rfl) (fun _ _ _ h => h) (Or.inl ⟨by rfl, ?_⟩) trivial ?_
        rotate_left 1
        · intro w hSw; (try dsimp only at hSw); go_simp; (try rw [if_pos (by omega)]); try (with_reducible rfl)
        try simp only [Act.put, List.setIfInBounds_toArray, List.set_cons_zero, List.set_cons_succ]
        refine wpAnyH_done (by kernel_rfl) ?_ _
        try simp only [Act.put, List.setIfInBounds_toArray, List.set_cons_zero, List.set_cons_succ]
        go_wp2_with fail
        go_ret2
        exact ⟨⟨_, _, rfl, by omega, by omega, by omega, by omega⟩, Kp.out.below hr0⟩
      refine AllReadyH.cons (o := ⟨some 17, _, _, _, _, _⟩) rfl (fun K hK => ?_) AllReadyH.nil
      go_simp
      with_reducible refine (pick_any 4 r _ _ R.out (by omega)).mono ?_
      rintro e v4 ⟨yb, rfl, y0b, y1b, hr', hk⟩
      go_wp2_with fail
      refine hK.out _ _ trivial (fun _ => ?_)
      clear hK K
      replace y1b := y1b (by omega)
      obtain ⟨jb, rfl⟩ : ∃ j : Nat, yb = j := ⟨yb.toNat, by omega⟩
      have hjb : jb < 4 := by omega
      replace R := Lib.hid hr'
      replace HB := Lib.hid ((hk.block _ (ltHb HB.out) (by omega)).trans HB.out)
      replace HA := Lib.hid ((hk.block _ (ltHb HA.out) (by omega)).trans HA.out)
      replace Kp := Lib.hid (Kp.out.trans (hk.mono Kp.out.size))
      have hrl : r < v4.heap.size := R.out.lt
      clear hr' hk y0b y1b
      try simp only [Act.put, List.setIfInBounds_toArray, List.set_cons_zero, List.set_cons_succ]
      refine wpAnyH_take (i := 8) (oi := ⟨some 18, _, _, _, _, _⟩) (v := ?_) rfl (by kernel_rfl) (by kernel_rfl) (by kernel_rfl) (fun _ _ _ h => h) (Or.inl ⟨by rfl, ?_⟩) trivial ?_
      rotate_left 1
      · intro w hSw; (try dsimp only at hSw); go_simp; (try rw [if_pos (by omega)]); try (with_reducible rfl)
      try simp only [Act.put, List.setIfInBounds_toArray, List.set_cons_zero, List.set_cons_succ]
      refine wpAnyH_ready (rs := [4, 9]) (by kernel_rfl) (by simp) ?_
      refine AllReadyH.cons (o := ⟨some 14, _, _, _, _, _⟩) rfl (fun K hK => ?_) ?_
      · obtain ⟨zA, hzA, z0A, z1A⟩ := lit4a HA.out hja
        go_simp
        refine hK.out _ _ trivial (fun _ => ?_)
        clear hK K hzA
        try simp only [Act.put, List.setIfInBounds_toArray, List.set_cons_zero, List.set_cons_succ]
        refine wpAnyH_take (i := 10) (oi := ⟨some 2, _, _, _, _, _⟩) (v := ?_) rfl (by kernel_rfl) (by kernel_rfl) (by kernel_rfl) (fun _ _ _ h => h) (Or.inl ⟨by rfl, ?_⟩) trivial ?_
        rotate_left 1
        · intro w hSw; (try dsimp only at hSw); go_simp; (try rw [if_pos (by omega)]); try (with_reducible rfl)
        try simp only [Act.put, List.setIfInBounds_toArray, List.set_cons_zero, List.set_cons_succ]
        refine wpAnyH_ready (rs := [9]) (by kernel_rfl) (by simp) ?_
        refine AllReadyH.cons (o := ⟨some 19, _, _, _, _, _⟩) rfl (fun K hK => ?_) AllReadyH.nil
        obtain ⟨zB, hzB, z0B, z1B⟩ := lit4b HB.out hjb
        go_simp
        refine hK.out _ _ trivial (fun _ => ?_)
        clear hK K hzB
        try simp only [Act.put, List.setIfInBounds_toArray, List.set_cons_zero, List.set_cons_succ]
        refine wpAnyH_take (i := 11) (oi := ⟨some 3, _, _, _, _, _⟩) (v := ?_) rfl (by kernel_rfl) (by kernel_rfl) (by kernel_rfl) (fun _ _ _ h => h) (Or.inl ⟨by rfl, ?_⟩) trivial ?_
        rotate_left 1
        · intro w hSw; (try dsimp only at hSw); go_simp; (try rw [if_pos (by omega)]); try (with_reducible rfl)
        try simp only [Act.put, List.setIfInBounds_toArray, List.set_cons_zero, List.set_cons_succ]
        refine wpAnyH_done (by kernel_rfl) ?_ _
        try simp only [Act.put, List.setIfInBounds_toArray, List.set_cons_zero, List.set_cons_succ]
        go_wp2_with fail
        go_ret2
        exact ⟨⟨_, _, rfl, by omega, by omega, by omega, by omega⟩, Kp.out.below hr0⟩
      refine AllReadyH.cons (o := ⟨some 19, _, _, _, _, _⟩) rfl (fun K hK => ?_) AllReadyH.nil
      obtain ⟨zB, hzB, z0B, z1B⟩ := lit4b HB.out hjb
      go_simp
      refine hK.out _ _ trivial (fun _ => ?_)
      clear hK K hzB
      try simp only [Act.put, List.setIfInBounds_toArray, List.set_cons_zero, List.set_cons_succ]
      refine wpAnyH_ready (rs := [4]) (by kernel_rfl) (by simp) ?_
      refine AllReadyH.cons (o := ⟨some 14, _, _, _, _, _⟩) rfl (fun K hK => ?_) AllReadyH.nil
      obtain ⟨zA, hzA, z0A, z1A⟩ := lit4a HA.out hja
      go_simp
      refine hK.out _ _ trivial (fun _ => ?_)
      clear hK K hzA
      try simp only [Act.put, List.setIfInBounds_toArray, List.set_cons_zero, List.set_cons_succ]
      refine wpAnyH_take (i := 10) (oi := ⟨some 2, _, _, _, _, _⟩) (v := ?_) rfl (by kernel_rfl) (by kernel_rfl) (by kernel_rfl) (fun _ _ _ h => h) (Or.inl ⟨by rfl, ?_⟩) trivial ?_
      rotate_left 1
      · intro w hSw; (try dsimp only at hSw); go_simp; (try rw [if_pos (by omega)]); try (with_reducible rfl)
      try simp only [Act.put, List.setIfInBounds_toArray, List.set_cons_zero, List.set_cons_succ]
      refine wpAnyH_take (i := 11) (oi := ⟨some 3, _, _, _, _, _⟩) (v := ?_) rfl (by kernel_rfl) (by kernel_rfl) (by kernel_rfl) (fun _ _ _ h => h) (Or.inl ⟨by rfl, ?_⟩) trivial ?_
      rotate_left 1
      · intro w hSw; (try dsimp only at hSw); go_simp; (try rw [if_pos (by omega)]); try (with_reducible rfl)
      try simp only [Act.put, List.setIfInBounds_toArray, List.set_cons_zero, List.set_cons_succ]
      refine wpAnyH_done (by kernel_rfl) ?_ _
      try simp only [Act.put, List.setIfInBounds_toArray, List.set_cons_zero, List.set_cons_succ]
      go_wp2_with fail
      go_ret2
      exact ⟨⟨_, _, rfl, by omega, by omega, by omega, by omega⟩, Kp.out.below hr0⟩
    refine AllReadyH.cons (o := ⟨some 17, _, _, _, _, _⟩) rfl (fun K hK => ?_) AllReadyH.nil
    go_simp
    with_reducible refine (pick_any 4 r _ _ R.out (by omega)).mono ?_
    rintro e v3 ⟨yb, rfl, y0b, y1b, hr', hk⟩
    go_wp2_with fail
    refine hK.out _ _ trivial (fun _ => ?_)
    clear hK K
    replace y1b := y1b (by omega)
    obtain ⟨jb, rfl⟩ : ∃ j : Nat, yb = j := ⟨yb.toNat, by omega⟩
    have hjb : jb < 4 := by omega
    replace R := Lib.hid hr'
    replace HB := Lib.hid ((hk.block _ (ltHb HB.out) (by omega)).trans HB.out)
    replace Kp := Lib.hid (Kp.out.trans (hk.mono Kp.out.size))
    have hrl : r < v3.heap.size := R.out.lt
    clear hr' hk y0b y1b
    try simp only [Act.put, List.setIfInBounds_toArray, List.set_cons_zero, List.set_cons_succ]
    refine wpAnyH_take (i := 8) (oi := ⟨some 18, _, _, _, _, _⟩) (v := ?_) rfl (by kernel_rfl) (by kernel_rfl) (by kernel_rfl) (fun _ _ _ h => h) (Or.inl ⟨by rfl, ?_⟩) trivial ?_
    rotate_left 1
    · intro w hSw; (try dsimp only at hSw); go_simp; (try rw [if_pos (by omega)]); try (with_reducible rfl)
    try simp only [Act.put, List.setIfInBounds_toArray, List.set_cons_zero, List.set_cons_succ]
    refine wpAnyH_ready (rs := [0, 9]) (by kernel_rfl) (by simp) ?_
    refine AllReadyH.cons (o := ⟨some 10, _, _, _, _, _⟩) rfl (fun K hK => ?_) ?_
    · go_simp
      refine hK.out _ _ trivial (fun _ => ?_)
      clear hK K
      have HA := Lib.hid (heap_alloc_new v3 (.cells #[.int .i64 (-1), .int .i64 0, .int .i64 199, .int .i64 200] 3))
      replace R := Lib.hid (R.out.alloc (.cells #[.int .i64 (-1), .int .i64 0, .int .i64 199, .int .i64 200] 3))
      have hsz := Kp.out.size
      replace HB := Lib.hid ((Below.heap_alloc v3 (.cells #[.int .i64 (-1), .int .i64 0, .int .i64 199, .int .i64 200] 3) _ (ltHb HB.out)).trans HB.out)
      replace Kp := Lib.hid (Kp.out.alloc hsz (.cells #[.int .i64 (-1), .int .i64 0, .int .i64 199, .int .i64 200] 3))
      have hrA : r < v3.heap.size := by have := hrl; omega
      clear hsz
      obtain ⟨bA, hbA⟩ : ∃ c, Hid (v3.heap.size = c) := ⟨_, Lib.hid rfl⟩
      rw [hbA.out] at HA hrA ⊢
      have hrl : r < (v3.alloc (.cells #[.int .i64 (-1), .int .i64 0, .int .i64 199, .int .i64 200] 3)).heap.size := R.out.lt
      generalize World.alloc v3 (.cells #[.int .i64 (-1), .int .i64 0, .int .i64 199, .int .i64 200] 3) = v4 at R Kp hrl HA HB ⊢
      clear hbA
      try simp only [Act.put, List.setIfInBounds_toArray, List.set_cons_zero, List.set_cons_succ]
      refine wpAnyH_take (i := 3) (oi := ⟨some 13, _, _, _, _, _⟩) (v := ?_) rfl (by kernel_rfl) (by kernel_rfl) (by kernel_rfl) (fun _ _ _ h => h) (Or.inl ⟨by rfl, ?_⟩) trivial ?_
      rotate_left 1
      · intro w hSw; (try dsimp only at hSw); go_simp; (try rw [if_pos (by omega)]); try (with_reducible rfl)
      try simp only [Act.put, List.setIfInBounds_toArray, List.set_cons_zero, List.set_cons_succ]
      refine wpAnyH_ready (rs := [4, 9]) (by kernel_rfl) (by simp) ?_
      refine AllReadyH.cons (o := ⟨some 14, _, _, _, _, _⟩) rfl (fun K hK => ?_) ?_
      · obtain ⟨zA, hzA, z0A, z1A⟩ := lit4a HA.out hja
        go_simp
        refine hK.out _ _ trivial (fun _ => ?_)
        clear hK K hzA
        try simp only [Act.put, List.setIfInBounds_toArray, List.set_cons_zero, List.set_cons_succ]
        refine wpAnyH_take (i := 10) (oi := ⟨some 2, _, _, _, _, _⟩) (v := ?_) rfl (by kernel_rfl) (by kernel_rfl) (by kernel_rfl) (fun _ _ _ h => h) (Or.inl ⟨by rfl, ?_⟩) trivial ?_
        rotate_left 1
        · intro w hSw; (try dsimp only at hSw); go_simp; (try rw [if_pos (by omega)]); try (with_reducible rfl)
        try simp only [Act.put, List.setIfInBounds_toArray, List.set_cons_zero, List.set_cons_succ]
        refine wpAnyH_ready (rs := [9]) (by kernel_rfl) (by simp) ?_
        refine AllReadyH.cons (o := ⟨some 19, _, _, _, _, _⟩) rfl (fun K hK => ?_) AllReadyH.nil
        obtain ⟨zB, hzB, z0B, z1B⟩ := lit4b HB.out hjb
        go_simp
        refine hK.out _ _ trivial (fun _ => ?_)
        clear hK K hzB
        try simp only [Act.put, List.setIfInBounds_toArray, List.set_cons_zero, List.set_cons_succ]
        refine wpAnyH_take (i := 11) (oi := ⟨some 3, _, _, _, _, _⟩) (v := ?_) rfl (by kernel_rfl) (by kernel_rfl) (by kernel_rfl) (fun _ _ _ h => h) (Or.inl ⟨by rfl, ?_⟩) trivial ?_
        rotate_left 1
        · intro w hSw; (try dsimp only at hSw); go_simp; (try rw [if_pos (by omega)]); try (with_reducible rfl)
        try simp only [Act.put, List.setIfInBounds_toArray, List.set_cons_zero, List.set_cons_succ]
        refine wpAnyH_done (by kernel_rfl) ?_ _
        try simp only [Act.put, List.setIfInBounds_toArray, List.set_cons_zero, List.set_cons_succ]
        go_wp2_with fail
        go_ret2
        exact ⟨⟨_, _, rfl, by omega, by omega, by omega, by omega⟩, Kp.out.below hr0⟩
      refine AllReadyH.cons (o := ⟨some 19, _, _, _, _, _⟩) rfl (fun K hK => ?_) AllReadyH.nil
      obtain ⟨zB, hzB, z0B, z1B⟩ := lit4b HB.out hjb
      go_simp
      refine hK.out _ _ trivial (fun _ => ?_)
      clear hK K hzB
      try simp only [Act.put, List.setIfInBounds_toArray, List.set_cons_zero, List.set_cons_succ]
      refine wpAnyH_ready (rs := [4]) (by kernel_rfl) (by simp) ?_
      refine AllReadyH.cons (o := ⟨some 14, _, _, _, _, _⟩) rfl (fun K hK => ?_) AllReadyH.nil
      obtain ⟨zA, hzA, z0A, z1A⟩ := lit4a HA.out hja
      go_simp
      refine hK.out _ _ trivial (fun _ => ?_)
      clear hK K hzA
      try simp only [Act.put, List.setIfInBounds_toArray, List.set_cons_zero, List.set_cons_succ]
      refine wpAnyH_take (i := 10) (oi := ⟨some 2, _, _, _, _, _⟩) (v := ?_) rfl (by kernel_rfl) (by kernel_rfl) (by kernel_rfl) (fun _ _ _ h => h) (Or.inl ⟨by rfl, ?_⟩) trivial ?_
      rotate_left 1
      · intro w hSw; (try dsimp only at hSw); go_simp; (try rw [if_pos (by omega)]); try (with_reducible rfl)
      try simp only [Act.put, List.setIfInBounds_toArray, List.set_cons_zero, List.set_cons_succ]
      refine wpAnyH_take (i := 11) (oi := ⟨some 3, _, _, _, _, _⟩) (v := ?_) rfl (by kernel_rfl) (by kernel_rfl) (by kernel_rfl) (fun _ _ _ h => h) (Or.inl ⟨by rfl, ?_⟩) trivial ?_
      rotate_left 1
      · intro w hSw; (try dsimp only at hSw); go_simp; (try rw [if_pos (by omega)]); try (with_reducible rfl)
      try simp only [Act.put, List.setIfInBounds_toArray, List.set_cons_zero, List.set_cons_succ]
      refine wpAnyH_done (by kernel_rfl) ?_ _
      try simp only [Act.put, List.setIfInBounds_toArray, List.set_cons_zero, List.set_cons_succ]
      go_wp2_with fail
      go_ret2
      exact ⟨⟨_, _, rfl, by omega, by omega, by omega, by omega⟩, Kp.out.below hr0⟩
    refine AllReadyH.cons (o := ⟨some 19, _, _, _, _, _⟩) rfl (fun K hK => ?_) AllReadyH.nil
    obtain ⟨zB, hzB, z0B, z1B⟩ := lit4b HB.out hjb
    go_simp
    refine hK.out _ _ trivial (fun _ => ?_)
    clear hK K hzB
    try simp only [Act.put, List.setIfInBounds_toArray, List.set_cons_zero, List.set_cons_succ]
    refine wpAnyH_ready (rs := [0]) (by kernel_rfl) (by simp) ?_
    refine AllReadyH.cons (o := ⟨some 10, _, _, _, _, _⟩) rfl (fun K hK => ?_) AllReadyH.nil
    go_simp
    refine hK.out _ _ trivial (fun _ => ?_)
    clear hK K
    have HA := Lib.hid (heap_alloc_new v3 (.cells #[.int .i64 (-1), .int .i64 0, .int .i64 199, .int .i64 200] 3))
    replace R := Lib.hid (R.out.alloc (.cells #[.int .i64 (-1), .int .i64 0, .int .i64 199, .int .i64 200] 3))
    have hsz := Kp.out.size
    replace HB := Lib.hid ((Below.heap_alloc v3 (.cells #[.int .i64 (-1), .int .i64 0, .int .i64 199, .int .i64 200] 3) _ (ltHb HB.out)).trans HB.out)
    replace Kp := Lib.hid (Kp.out.alloc hsz (.cells #[.int .i64 (-1), .int .i64 0, .int .i64 199, .int .i64 200] 3))
    have hrA : r < v3.heap.size := by have := hrl; omega
    clear hsz
    obtain ⟨bA, hbA⟩ : ∃ c, Hid (v3.heap.size = c) := ⟨_, Lib.hid rfl⟩
    rw [hbA.out] at HA hrA ⊢
    have hrl : r < (v3.alloc (.cells #[.int .i64 (-1), .int .i64 0, .int .i64 199, .int .i64 200] 3)).heap.size := R.out.lt
    generalize World.alloc v3 (.cells #[.int .i64 (-1), .int .i64 0, .int .i64 199, .int .i64 200] 3) = v4 at R Kp hrl HA HB ⊢
    clear hbA
    try simp only [Act.put, List.setIfInBounds_toArray, List.set_cons_zero, List.set_cons_succ]
    refine wpAnyH_take (i := 3) (oi := ⟨some 13, _, _, _, _, _⟩) (v := ?_) rfl (by kernel_rfl) (by kernel_rfl) (by kernel_rfl) (fun _ _ _ h => h) (Or.inl ⟨by rfl, ?_⟩) trivial ?_
    rotate_left 1
    · intro w hSw; (try dsimp only at hSw); go_simp; (try rw [if_pos (by omega)]); try (with_reducible rfl)
    try simp only [Act.put, List.setIfInBounds_toArray, List.set_cons_zero, List.set_cons_succ]
    refine wpAnyH_ready (rs := [4]) (by kernel_rfl) (by simp) ?_
    refine AllReadyH.cons (o := ⟨some 14, _, _, _, _, _⟩) rfl (fun K hK => ?_) AllReadyH.nil
    obtain ⟨zA, hzA, z0A, z1A⟩ := lit4a HA.out hja
    go_simp
    refine hK.out _ _ trivial (fun _ => ?_)
    clear hK K hzA
    try simp only [Act.put, List.setIfInBounds_toArray, List.set_cons_zero, List.set_cons_succ]
    refine wpAnyH_take (i := 10) (oi := ⟨some 2, _, _, _, _, _⟩) (v := ?_) rfl (by kernel_rfl) (by kernel_rfl) (by kernel_rfl) (fun _ _ _ h => h) (Or.inl ⟨by rfl, ?_⟩) trivial ?_
    rotate_left 1
    · intro w hSw; (try dsimp only at hSw); go_simp; (try rw [if_pos (by omega)]); try (with_reducible rfl)
    try simp only [Act.put, List.setIfInBounds_toArray, List.set_cons_zero, List.set_cons_succ]
    refine wpAnyH_take (i := 11) (oi := ⟨some 3, _, _, _, _, _⟩) (v := ?_) rfl (by kernel_rfl) (by kernel_rfl) (by kernel_rfl) (fun _ _ _ h => h) (Or.inl ⟨by rfl, ?_⟩) trivial ?_
    rotate_left 1
    · intro w hSw; (try dsimp only at hSw); go_simp; (try rw [if_pos (by omega)]); try (with_reducible rfl)
    try simp only [Act.put, List.setIfInBounds_toArray, List.set_cons_zero, List.set_cons_succ]
    refine wpAnyH_done (by kernel_rfl) ?_ _
    try simp only [Act.put, List.setIfInBounds_toArray, List.set_cons_zero, List.set_cons_succ]
    go_wp2_with fail
    go_ret2
    exact ⟨⟨_, _, rfl, by omega, by omega, by omega, by omega⟩, Kp.out.below hr0⟩
  · have hx' : (x == 0) = false := by simpa using hx
    clear hx
    go_wp2_with fail
    refine (pick_any 200 r _ _ R2.out (by omega)).mono ?_
    rintro e w3 ⟨y, rfl, y0, y1', hr', hk⟩
    have y1 := y1' (by omega)
    have K3 := Lib.hid (K2.out.trans (hk.mono s2))
    have s3 : w.heap.size ≤ w3.heap.size := K3.out.size
    have R3 := Lib.hid hr'
    clear hk hr' y1' K2 R2
    go_wp2_with fail
    refine (pick_any 5 r _ _ R3.out (by omega)).mono ?_
    rintro e w4 ⟨z, rfl, z0, z1', hr', hk⟩
    have z1 := z1' (by omega)
    have K4 := Lib.hid (K3.out.trans (hk.mono s3))
    clear hk hr' z1' K3 R3
    go_wp2_with fail
    go_ret2
    exact ⟨⟨_, _, rfl, by omega, by omega, by omega, by omega⟩, K4.out.below hr0⟩

end Go.Proofs.Ytdikcenhakfheaa
