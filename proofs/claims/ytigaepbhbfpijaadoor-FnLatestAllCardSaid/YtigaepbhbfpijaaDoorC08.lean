/- Texts laid together. -/
import Derived.Test.YtigaepbhbfpijaaDoorC07
import Derived.Test.YtigaepbhbfpijaaDoorC01
import Derived.Test.YtigaepbhbfpijaaDoorC04
import Derived.Test.YtigaepbhbfpijaaDoorC05
import Derived.Test.YtigaepbhbfpijaaDoorC06
/- The walk of FnLatestAll. -/
namespace Go.Proofs.YtigaepbhbfpijaaDoor
open Go.RowKit
set_option linter.unusedVariables false

theorem last_some : ∀ {L : List Pid} {x : Pid}, x ∈ L → ∃ y, y ∈ lastP L ∧ y.1 = x.1
  | [], x, h => by simp at h
  | [a], x, h => ⟨a, by simp [lastP], by rw [List.mem_singleton.1 h]⟩
  | a :: b :: r, x, h => by
    by_cases e : b.1 = a.1
    · rw [last_same e]
      rcases List.mem_cons.1 h with rfl | h
      · obtain ⟨y, h1, h2⟩ := last_some (L := b :: r) (x := b) List.mem_cons_self
        exact ⟨y, h1, h2.trans e⟩
      · exact last_some h
    · rw [last_next e]
      rcases List.mem_cons.1 h with rfl | h
      · exact ⟨x, List.mem_cons_self, rfl⟩
      · obtain ⟨y, h1, h2⟩ := last_some h
        exact ⟨y, List.mem_cons_of_mem _ h1, h2⟩
theorem lat_some {C : List Pid} (hq : srtB C = true) {k : Nat} (hk : k < C.length) : ∃ i, i < (latR C).length ∧ ((latR C).getD i nop).1 = (C.getD k nop).1 := by
  rw [latR_t hq]
  obtain ⟨y, h1, h2⟩ := last_some (getD_mem hk)
  obtain ⟨i, hi, e⟩ := List.getElem_of_mem h1
  refine ⟨i, hi, ?_⟩
  rw [List.getD_eq_getElem?_getD, List.getElem?_eq_getElem hi, Option.getD_some, e, h2]
theorem lat_twice {C : List Pid} (hq : srtB C = true) : latR (latR C) = latR C := by
  obtain ⟨h1, h2, h3⟩ := srt_of hq
  rw [latR_t hq]
  have hs : srtB (lastP C) = true := srt_to (Nat.le_trans (last_sub C).length_le h1) (List.all_eq_true.2 fun x hx => List.all_eq_true.1 h2 x ((last_sub C).subset hx)) (last_asc h3)
  rw [latR_t hs]
  refine asc_ext (last_asc (last_asc h3)) (last_asc h3) (fun x => ?_)
  rw [mem_last (last_asc h3)]
  exact ⟨fun h => h.1, fun h => ⟨h, fun y hy e => ((mem_last h3 x).1 h).2 y ((last_sub C).subset hy) e⟩⟩
theorem any_next {P : Nat → Prop} {q : Bool} {k : Nat} (h : q = true ↔ ∃ i, i < k ∧ P i) (d : Bool) (hd : d = true ↔ P k) : (q || d) = true ↔ ∃ i, i < k + 1 ∧ P i := by
  rw [Bool.or_eq_true, h, hd]
  constructor
  · rintro (⟨i, h1, h2⟩ | h1)
    · exact ⟨i, by omega, h2⟩
    · exact ⟨k, by omega, h1⟩
  · rintro ⟨i, h1, h2⟩
    rcases Nat.lt_or_ge i k with h3 | h3
    · exact .inl ⟨i, h3, h2⟩
    · obtain rfl : i = k := by omega
      exact .inr h2

set_option maxRecDepth 100000 in
set_option maxHeartbeats 8000000 in
theorem fnLatestAll_walk (a : Option Addr) (len cap : Nat) (w : World) (hc : CodeIn w a len cap) (hcap : cap ≤ maxLen) (hT : TabIn w) :
    Calls Tryd.prog 8 #[.slice a len cap] w fun e w' => e = .returned (.bool true) ∧ Below w.heap.size w w' := by
  have hm : cap ≤ 9223372036854775807 := by simpa [maxLen] using hcap
  have hlc := hc.1
  by_cases hl : 1048576 < len
  · clear hcap hc hT
    go_enter Tryd.func8, Tryd.ntmps8
    go_wp2_with fail
    go_ret
    exact ⟨rfl, Below.refl _ _⟩
  · have hc1 := Lib.hid hc
    have hcap1 := Lib.hid hcap
    have hT := Lib.hid hT
    clear hc hcap
    go_enter Tryd.func8, Tryd.ntmps8
    go_wp2_with fail
    refine (ddl_any a len cap w hc1.out hcap1.out).mono ?_
    rintro e w0 ⟨u, C, rfl, hI, hCl, D1'⟩
    have D := Lib.hid D1'
    have hI := Lib.hid hI
    clear hc1 hcap1 D1'
    go_wp2_with fail
    refine (dlat_any u C _ hI.out (hT.out.up D.out (Nat.le_refl _))).mono ?_
    rintro e w1 ⟨gb, x, hgb, rfl, hO, hb⟩
    have hO := Lib.hid hO
    replace hI := Lib.hid (hI.out.up hb (Nat.le_refl _))
    replace D := Lib.hid (bstep D.out hb)
    clear hb
    go_wp2_with fail
    refine (slat_any u C _ hI.out).mono ?_
    rintro e w2 ⟨g2, y, hg2, rfl, hP, hb⟩
    have hP := Lib.hid hP
    replace hI := Lib.hid (hI.out.up hb (Nat.le_refl _))
    replace hO := Lib.hid (hO.out.up hb hO.out.lt)
    replace D := Lib.hid (bstep D.out hb)
    clear hb
    have hsome : Hid (srtB C = true → ∀ k, k < C.length → ∃ i, i < (latR C).length ∧ ((latR C).getD i nop).1 = (C.getD k nop).1) := Lib.hid fun h k hk => lat_some h hk
    have htw : Hid (srtB C = true → latR (latR C) = latR C) := Lib.hid lat_twice
    have hSl : (latR C).length ≤ 12 := latR_len C
    have s1 := fun w h => sval_any u C w h
    have sd := fun v w h hT => dlat_any v (latR C) w h hT
    generalize latR C = S at hO hP hsome hSl htw sd
    go_wp2_with fail
    refine (same_any x y S _ hO.out.read hP.out.read).mono ?_
    rintro e w3 ⟨rfl, hb⟩
    replace hI := Lib.hid (hI.out.up hb (Nat.le_refl _))
    replace hO := Lib.hid (hO.out.up hb hO.out.lt)
    replace hP := Lib.hid (hP.out.up hb hP.out.lt)
    replace D := Lib.hid (bstep D.out hb)
    clear hb
    generalize srtB C = q at hsome htw s1
    cases q
    · clear hsome htw sd
      go_wp2_with fail
      refine (s1 _ hI.out).mono ?_
      rintro e w4 ⟨rfl, hb⟩
      replace hO := Lib.hid (hO.out.up hb hO.out.lt)
      replace hP := Lib.hid (hP.out.up hb hP.out.lt)
      replace D := Lib.hid (bstep D.out hb)
      clear hb hI s1
      go_wp2_with fail
      refine (same_any x y S _ hO.out.read hP.out.read).mono ?_
      rintro e w5 ⟨rfl, hb⟩
      replace D := Lib.hid (bstep D.out hb)
      clear hb hO hP
      go_wp2_with fail
      go_ret
      exact ⟨rfl, D.out⟩
    · have hsm := Lib.hid (hsome.out rfl)
      rw [htw.out rfl] at sd
      clear htw hP hsome
      go_wp2_with fail
      refine (s1 _ hI.out).mono ?_
      rintro e ws ⟨rfl, hb⟩
      replace hI := Lib.hid (hI.out.up hb (Nat.le_refl _))
      replace hO := Lib.hid (hO.out.up hb hO.out.lt)
      replace D := Lib.hid (bstep D.out hb)
      clear hb s1
      obtain ⟨cS, hx, hcS⟩ := hO.out.shape
      obtain ⟨n, hn⟩ : ∃ n, Hid (S.length = n) := ⟨_, Lib.hid rfl⟩
      rw [hn.out] at hx hcS hSl
      subst hx
      obtain ⟨ad, cu, hu, hcu, _, hrd⟩ := hI.out
      obtain ⟨m, hm2⟩ : ∃ m, Hid (C.length = m) := ⟨_, Lib.hid rfl⟩
      rw [hm2.out] at hu hcu hCl
      subst hu
      have hrd := Lib.hid hrd
      have hgs := hO.out.lt
      have sd := Lib.hid sd
      clear hI
      go_wp2_with fail
      go_loopw [6] (fun i wr => ∃ k : Nat, k ≤ m ∧ i = .int .i64 k ∧ Hid (Below ws.heap.size ws wr)) (fun i _ => m - (intOf i).toNat)
      case atStart => exact ⟨0, Nat.zero_le _, rfl, Lib.hid (Below.refl _ _)⟩
      case round =>
        obtain ⟨k, hk, rfl, hnx⟩ := hrel
        by_cases hlt : k < m
        · rcases hrd.out with h | ⟨b, off, hab, hbs, hC⟩
          · have := hm2.out; omega
          · subst hab
            obtain ⟨h0, h1⟩ := hC k (by rw [hm2.out]; exact hlt)
            have hsk := hsm.out k (by rw [hm2.out]; exact hlt)
            generalize C.getD k nop = c at h0 h1 hsk
            obtain ⟨p, r⟩ := c
            dsimp only at h0 h1 hsk
            have hsk := Lib.hid hsk
            have h0 := Lib.hid h0
            clear h1 hC hrd sd
            go_wp2_with fail
            have nrm : decide ((k : Int) < (m : Int)) = true := decide_eq_true (by omega)
            try simp only [nrm]
            clear nrm
            go_loopw [7, 8] (fun s i wr2 => ∃ k2 : Nat, k2 ≤ n ∧ i = .int .i64 k2 ∧ ∃ q : Bool, s = .bool q ∧ Hid (q = true ↔ ∃ i, i < k2 ∧ (S.getD i nop).1 = p) ∧ Hid (Below ws.heap.size ws wr2)) (fun _ i _ => n - (intOf i).toNat)
            case atStart => exact ⟨0, Nat.zero_le _, rfl, false, rfl, Lib.hid ⟨(fun h => absurd h (by decide)), (fun ⟨i, h, _⟩ => absurd h (Nat.not_lt_zero _))⟩, hnx⟩
            case round =>
              obtain ⟨k2, hk2, rfl, q, rfl, hq, hnx2⟩ := hrel
              by_cases hlt2 : k2 < n
              · obtain ⟨c0, _⟩ := (hO.out.up hnx2.out hgs).cell k2 (by rw [hn.out]; exact hlt2)
                have q0 := (hnx2.out.cell (p := ⟨b, off + k * 2, none⟩) hbs).trans h0.out
                have hx := any_next (P := fun i => (S.getD i nop).1 = p) hq.out
                generalize (S.getD k2 nop).1 = x at c0 hx
                have hx1 := fun d hd => Lib.hid (hx d hd)
                cases q
                · have hq2 := hx1 (x == p) (by simp)
                  rw [Bool.false_or] at hq2
                  clear hx hx1 hq
                  go_upto_region 15 with fail
                  refine wp_region_held_drew (S := fun w' => w'.cell? ⟨gb, k2 * 2, none⟩ = some (.int .i64 x) ∧ w'.cell? ⟨b, off + k * 2, none⟩ = some (.int .i64 p) ∧ Below wr.heap.size wr w') (by kernel_rfl) ⟨c0, q0, Below.drew (Below.refl _ _)⟩ (fun hHeld => ?_)
                  refine wpAnyH_take (i := 0) (oi := ⟨some 42, _, _, _, _, _⟩) (v := ?_) rfl (by kernel_rfl) (by kernel_rfl) (by kernel_rfl) (fun _ _ _ h => h) (Or.inl ⟨by rfl, ?_⟩) (by assumption) ?_
                  rotate_left 1
                  · intro w hSw; (try dsimp only at hSw); go_simp; try (with_reducible rfl)
                  try simp only [Act.put, List.setIfInBounds_toArray, List.set_cons_zero, List.set_cons_succ]
                  refine wpAnyH_take (i := 1) (oi := ⟨some 43, _, _, _, _, _⟩) (v := ?_) rfl (by kernel_rfl) (by kernel_rfl) (by kernel_rfl) (fun _ _ _ h => h) (Or.inl ⟨by rfl, ?_⟩) (by assumption) ?_
                  rotate_left 1
                  · intro w hSw; (try dsimp only at hSw); go_simp; try (with_reducible rfl)
                  try simp only [Act.put, List.setIfInBounds_toArray, List.set_cons_zero, List.set_cons_succ]
                  refine wpAnyH_take (i := 2) (oi := ⟨some 44, _, _, _, _, _⟩) (v := ?_) rfl (by kernel_rfl) (by kernel_rfl) (by kernel_rfl) (fun _ _ _ h => h) (Or.inl ⟨by rfl, ?_⟩) (by assumption) ?_
                  rotate_left 1
                  · intro w hSw; (try dsimp only at hSw); go_simp; try (with_reducible rfl)
                  try simp only [Act.put, List.setIfInBounds_toArray, List.set_cons_zero, List.set_cons_succ]
                  refine wpAnyH_take (i := 3) (oi := ⟨some 45, _, _, _, _, _⟩) (v := ?_) rfl (by kernel_rfl) (by kernel_rfl) (by kernel_rfl) (fun _ _ _ h => h) (Or.inl ⟨by rfl, ?_⟩) (by assumption) ?_
                  rotate_left 1
                  · intro w hSw; (try dsimp only at hSw); go_simp; try (with_reducible rfl)
                  try simp only [Act.put, List.setIfInBounds_toArray, List.set_cons_zero, List.set_cons_succ]
                  refine wpAnyH_take (i := 4) (oi := ⟨some 46, _, _, _, _, _⟩) (v := ?_) rfl (by kernel_rfl) (by kernel_rfl) (by kernel_rfl) (fun _ _ _ h => h) (Or.inl ⟨by rfl, ?_⟩) (by assumption) ?_
                  rotate_left 1
                  · intro w hSw; (try dsimp only at hSw); go_simp; try (with_reducible rfl)
                  try simp only [Act.put, List.setIfInBounds_toArray, List.set_cons_zero, List.set_cons_succ]
                  refine wpAnyH_take (i := 5) (oi := ⟨some 47, _, _, _, _, _⟩) (v := ?_) rfl (by kernel_rfl) (by kernel_rfl) (by kernel_rfl) (fun _ _ _ h => h) (Or.inl ⟨by rfl, ?_⟩) (by assumption) ?_
                  rotate_left 1
                  · intro w hSw; (try dsimp only at hSw); go_simp; try (with_reducible rfl)
                  try simp only [Act.put, List.setIfInBounds_toArray, List.set_cons_zero, List.set_cons_succ]
                  refine wpAnyH_take (i := 6) (oi := ⟨some 48, _, _, _, _, _⟩) (v := ?_) rfl (by kernel_rfl) (by kernel_rfl) (by kernel_rfl) (fun _ _ _ h => h) (Or.inl ⟨by rfl, ?_⟩) (by assumption) ?_
                  rotate_left 1
                  · intro w hSw; (try dsimp only at hSw); go_simp; try (with_reducible rfl)
                  try simp only [Act.put, List.setIfInBounds_toArray, List.set_cons_zero, List.set_cons_succ]
                  refine wpAnyH_take (i := 7) (oi := ⟨some 49, _, _, _, _, _⟩) (v := ?_) rfl (by kernel_rfl) (by kernel_rfl) (by kernel_rfl) (fun _ _ _ h => h) (Or.inl ⟨by rfl, ?_⟩) (by assumption) ?_
                  rotate_left 1
                  · intro w hSw; (try dsimp only at hSw); go_simp; try (with_reducible rfl)
                  try simp only [Act.put, List.setIfInBounds_toArray, List.set_cons_zero, List.set_cons_succ]
                  refine wpAnyH_take (i := 8) (oi := ⟨some 50, _, _, _, _, _⟩) (v := ?_) rfl (by kernel_rfl) (by kernel_rfl) (by kernel_rfl) (fun _ _ _ h => h) (Or.inl ⟨by rfl, ?_⟩) (by assumption) ?_
                  rotate_left 1
                  · intro w hSw; (try dsimp only at hSw); go_simp; try (with_reducible rfl)
                  try simp only [Act.put, List.setIfInBounds_toArray, List.set_cons_zero, List.set_cons_succ]
                  refine wpAnyH_take (i := 9) (oi := ⟨some 51, _, _, _, _, _⟩) (v := ?_) rfl (by kernel_rfl) (by kernel_rfl) (by kernel_rfl) (fun _ _ _ h => h) (Or.inl ⟨by rfl, ?_⟩) (by assumption) ?_
                  rotate_left 1
                  · intro w hSw; (try dsimp only at hSw); go_simp; try (with_reducible rfl)
                  try simp only [Act.put, List.setIfInBounds_toArray, List.set_cons_zero, List.set_cons_succ]
                  refine wpAnyH_take (i := 10) (oi := ⟨some 52, _, _, _, _, _⟩) (v := ?_) rfl (by kernel_rfl) (by kernel_rfl) (by kernel_rfl) (fun _ _ _ h => h) (Or.inl ⟨by rfl, ?_⟩) (by assumption) ?_
                  rotate_left 1
                  · intro w hSw; (try dsimp only at hSw); go_simp; try (with_reducible rfl)
                  try simp only [Act.put, List.setIfInBounds_toArray, List.set_cons_zero, List.set_cons_succ]
                  refine wpAnyH_take (i := 11) (oi := ⟨some 53, _, _, _, _, _⟩) (v := ?_) rfl (by kernel_rfl) (by kernel_rfl) (by kernel_rfl) (fun _ _ _ h => h) (Or.inl ⟨by rfl, ?_⟩) (by assumption) ?_
                  rotate_left 1
                  · intro w hSw; (try dsimp only at hSw); go_simp; try (with_reducible rfl)
                  try simp only [Act.put, List.setIfInBounds_toArray, List.set_cons_zero, List.set_cons_succ]
                  refine wpAnyH_take (i := 12) (oi := ⟨some 54, _, _, _, _, _⟩) (v := ?_) rfl (by kernel_rfl) (by kernel_rfl) (by kernel_rfl) (fun _ _ _ h => h) (Or.inl ⟨by rfl, ?_⟩) (by assumption) ?_
                  rotate_left 1
                  · intro w hSw; (try dsimp only at hSw); go_simp; try (with_reducible rfl)
                  try simp only [Act.put, List.setIfInBounds_toArray, List.set_cons_zero, List.set_cons_succ]
                  refine wpAnyH_take (i := 13) (oi := ⟨some 55, _, _, _, _, _⟩) (v := ?_) rfl (by kernel_rfl) (by kernel_rfl) (by kernel_rfl) (fun _ _ _ h => h) (Or.inl ⟨by rfl, ?_⟩) (by assumption) ?_
                  rotate_left 1
                  · intro w hSw; (try dsimp only at hSw); go_simp; try (with_reducible rfl)
                  try simp only [Act.put, List.setIfInBounds_toArray, List.set_cons_zero, List.set_cons_succ]
                  refine wpAnyH_take (i := 14) (oi := ⟨some 7, _, _, _, _, _⟩) (v := ?_) rfl (by kernel_rfl) (by kernel_rfl) (by kernel_rfl) (fun _ _ _ h => h) (Or.inl ⟨by rfl, ?_⟩) (by assumption) ?_
                  rotate_left 1
                  · intro w hSw; (try dsimp only at hSw); go_simp; try (with_reducible rfl)
                  try simp only [Act.put, List.setIfInBounds_toArray, List.set_cons_zero, List.set_cons_succ]
                  refine wpAnyH_done (by kernel_rfl) ?_ _
                  try simp only [Act.put, List.setIfInBounds_toArray, List.set_cons_zero, List.set_cons_succ]
                  have D7 := Lib.hid (bstep hnx2.out hHeld.2.2)
                  clear hHeld c0 q0
                  go_wp2_with fail
                  go_roundw
                  case rel => exact ⟨k2 + 1, by omega, by go_num, x == p, rfl, hq2, D7⟩
                  case measure => simp [intOf]; omega
                · have hq2 := hx1 (x == p) (by simp)
                  rw [Bool.true_or] at hq2
                  clear hx hx1 hq
                  go_upto_region 15 with fail
                  refine wp_region_held_drew (S := fun w' => w'.cell? ⟨gb, k2 * 2, none⟩ = some (.int .i64 x) ∧ w'.cell? ⟨b, off + k * 2, none⟩ = some (.int .i64 p) ∧ Below wr.heap.size wr w') (by kernel_rfl) ⟨c0, q0, Below.drew (Below.refl _ _)⟩ (fun hHeld => ?_)
                  refine wpAnyH_take (i := 0) (oi := ⟨some 42, _, _, _, _, _⟩) (v := ?_) rfl (by kernel_rfl) (by kernel_rfl) (by kernel_rfl) (fun _ _ _ h => h) (Or.inl ⟨by rfl, ?_⟩) (by assumption) ?_
                  rotate_left 1
                  · intro w hSw; (try dsimp only at hSw); go_simp; try (with_reducible rfl)
                  try simp only [Act.put, List.setIfInBounds_toArray, List.set_cons_zero, List.set_cons_succ]
                  refine wpAnyH_take (i := 1) (oi := ⟨some 43, _, _, _, _, _⟩) (v := ?_) rfl (by kernel_rfl) (by kernel_rfl) (by kernel_rfl) (fun _ _ _ h => h) (Or.inl ⟨by rfl, ?_⟩) (by assumption) ?_
                  rotate_left 1
                  · intro w hSw; (try dsimp only at hSw); go_simp; try (with_reducible rfl)
                  try simp only [Act.put, List.setIfInBounds_toArray, List.set_cons_zero, List.set_cons_succ]
                  refine wpAnyH_take (i := 2) (oi := ⟨some 44, _, _, _, _, _⟩) (v := undef) rfl (by kernel_rfl) (by kernel_rfl) (by kernel_rfl) (fun _ _ _ h => h) (Or.inr ⟨by rfl, rfl⟩) (by assumption) ?_
                  try simp only [Act.put, List.setIfInBounds_toArray, List.set_cons_zero, List.set_cons_succ]
                  refine wpAnyH_take (i := 3) (oi := ⟨some 45, _, _, _, _, _⟩) (v := undef) rfl (by kernel_rfl) (by kernel_rfl) (by kernel_rfl) (fun _ _ _ h => h) (Or.inr ⟨by rfl, rfl⟩) (by assumption) ?_
                  try simp only [Act.put, List.setIfInBounds_toArray, List.set_cons_zero, List.set_cons_succ]
                  refine wpAnyH_take (i := 4) (oi := ⟨some 46, _, _, _, _, _⟩) (v := undef) rfl (by kernel_rfl) (by kernel_rfl) (by kernel_rfl) (fun _ _ _ h => h) (Or.inr ⟨by rfl, rfl⟩) (by assumption) ?_
                  try simp only [Act.put, List.setIfInBounds_toArray, List.set_cons_zero, List.set_cons_succ]
                  refine wpAnyH_take (i := 5) (oi := ⟨some 47, _, _, _, _, _⟩) (v := undef) rfl (by kernel_rfl) (by kernel_rfl) (by kernel_rfl) (fun _ _ _ h => h) (Or.inr ⟨by rfl, rfl⟩) (by assumption) ?_
                  try simp only [Act.put, List.setIfInBounds_toArray, List.set_cons_zero, List.set_cons_succ]
                  refine wpAnyH_take (i := 6) (oi := ⟨some 48, _, _, _, _, _⟩) (v := undef) rfl (by kernel_rfl) (by kernel_rfl) (by kernel_rfl) (fun _ _ _ h => h) (Or.inr ⟨by rfl, rfl⟩) (by assumption) ?_
                  try simp only [Act.put, List.setIfInBounds_toArray, List.set_cons_zero, List.set_cons_succ]
                  refine wpAnyH_take (i := 7) (oi := ⟨some 49, _, _, _, _, _⟩) (v := undef) rfl (by kernel_rfl) (by kernel_rfl) (by kernel_rfl) (fun _ _ _ h => h) (Or.inr ⟨by rfl, rfl⟩) (by assumption) ?_
                  try simp only [Act.put, List.setIfInBounds_toArray, List.set_cons_zero, List.set_cons_succ]
                  refine wpAnyH_take (i := 8) (oi := ⟨some 50, _, _, _, _, _⟩) (v := undef) rfl (by kernel_rfl) (by kernel_rfl) (by kernel_rfl) (fun _ _ _ h => h) (Or.inr ⟨by rfl, rfl⟩) (by assumption) ?_
                  try simp only [Act.put, List.setIfInBounds_toArray, List.set_cons_zero, List.set_cons_succ]
                  refine wpAnyH_take (i := 9) (oi := ⟨some 51, _, _, _, _, _⟩) (v := undef) rfl (by kernel_rfl) (by kernel_rfl) (by kernel_rfl) (fun _ _ _ h => h) (Or.inr ⟨by rfl, rfl⟩) (by assumption) ?_
                  try simp only [Act.put, List.setIfInBounds_toArray, List.set_cons_zero, List.set_cons_succ]
                  refine wpAnyH_take (i := 10) (oi := ⟨some 52, _, _, _, _, _⟩) (v := undef) rfl (by kernel_rfl) (by kernel_rfl) (by kernel_rfl) (fun _ _ _ h => h) (Or.inr ⟨by rfl, rfl⟩) (by assumption) ?_
                  try simp only [Act.put, List.setIfInBounds_toArray, List.set_cons_zero, List.set_cons_succ]
                  refine wpAnyH_take (i := 11) (oi := ⟨some 53, _, _, _, _, _⟩) (v := undef) rfl (by kernel_rfl) (by kernel_rfl) (by kernel_rfl) (fun _ _ _ h => h) (Or.inr ⟨by rfl, rfl⟩) (by assumption) ?_
                  try simp only [Act.put, List.setIfInBounds_toArray, List.set_cons_zero, List.set_cons_succ]
                  refine wpAnyH_take (i := 12) (oi := ⟨some 54, _, _, _, _, _⟩) (v := undef) rfl (by kernel_rfl) (by kernel_rfl) (by kernel_rfl) (fun _ _ _ h => h) (Or.inr ⟨by rfl, rfl⟩) (by assumption) ?_
                  try simp only [Act.put, List.setIfInBounds_toArray, List.set_cons_zero, List.set_cons_succ]
                  refine wpAnyH_take (i := 13) (oi := ⟨some 55, _, _, _, _, _⟩) (v := ?_) rfl (by kernel_rfl) (by kernel_rfl) (by kernel_rfl) (fun _ _ _ h => h) (Or.inl ⟨by rfl, ?_⟩) (by assumption) ?_
                  rotate_left 1
                  · intro w hSw; (try dsimp only at hSw); go_simp; try (with_reducible rfl)
                  try simp only [Act.put, List.setIfInBounds_toArray, List.set_cons_zero, List.set_cons_succ]
                  refine wpAnyH_take (i := 14) (oi := ⟨some 7, _, _, _, _, _⟩) (v := ?_) rfl (by kernel_rfl) (by kernel_rfl) (by kernel_rfl) (fun _ _ _ h => h) (Or.inl ⟨by rfl, ?_⟩) (by assumption) ?_
                  rotate_left 1
                  · intro w hSw; (try dsimp only at hSw); go_simp; try (with_reducible rfl)
                  try simp only [Act.put, List.setIfInBounds_toArray, List.set_cons_zero, List.set_cons_succ]
                  refine wpAnyH_done (by kernel_rfl) ?_ _
                  try simp only [Act.put, List.setIfInBounds_toArray, List.set_cons_zero, List.set_cons_succ]
                  have D7 := Lib.hid (bstep hnx2.out hHeld.2.2)
                  clear hHeld c0 q0
                  go_wp2_with fail
                  go_roundw
                  case rel => exact ⟨k2 + 1, by omega, by go_num, true, rfl, hq2, D7⟩
                  case measure => simp [intOf]; omega
              · obtain rfl : k2 = n := by omega
                have hqt : q = true := hq.out.2 (by rw [← hn.out]; exact hsk.out)
                subst hqt
                go_wp2_with fail
                go_roundw
                case rel => exact ⟨k + 1, by omega, by go_num, hnx2⟩
                case measure => simp [intOf]; omega
        · obtain rfl : k = m := by omega
          replace hO := Lib.hid (hO.out.up hnx.out hgs)
          replace D := Lib.hid (bstep D.out hnx.out)
          clear hrd
          go_wp2_with fail
          refine (sd.out _ _ hO.out.read (hT.out.up D.out (Nat.le_refl _))).mono ?_
          rintro e w8 ⟨g8, v8, hg8, rfl, hQ, hb⟩
          have hQ := Lib.hid hQ
          replace hO := Lib.hid (hO.out.up hb hO.out.lt)
          replace D := Lib.hid (bstep D.out hb)
          clear hb sd
          go_wp2_with fail
          refine (same_any v8 _ S _ hQ.out.read hO.out.read).mono ?_
          rintro e w9 ⟨rfl, hb⟩
          replace D := Lib.hid (bstep D.out hb)
          clear hb hQ hO
          go_wp2_with fail
          go_ret
          exact ⟨rfl, D.out⟩
end Go.Proofs.YtigaepbhbfpijaaDoor

/- The laws' sizes of slices of ids. -/
namespace Go.Proofs.YtigaepbhbfpijaaDoor
open Go.RowKit
set_option linter.unusedVariables false

theorem szP_any (a : Option Addr) (n cap : Nat) (k : Int) (w : World) (hk : k = 1048576) (h : n ≤ 9223372036854775807) :
    Calls Tryd.prog 24 #[.slice a n cap, .int .i64 k] w fun e w' => e = .returned (.int .i64 (if 1048576 < n then -1 else 1048576 - n)) ∧ Below w.heap.size w w' := by
  subst hk
  by_cases hl : 1048576 < n
  · rw [if_pos hl]
    go_enter Tryd.func24, Tryd.ntmps24
    go_wp2_with fail
    go_ret
    exact ⟨rfl, Below.refl _ _⟩
  · rw [if_neg hl]
    go_enter Tryd.func24, Tryd.ntmps24
    go_wp2_with fail
    go_ret
    exact ⟨rfl, Below.refl _ _⟩

/-- .. with whatever is left. -/
theorem szP_gen (a : Option Addr) (n cap : Nat) (k : Int) (w : World) (hk : 0 ≤ k) (hk2 : k ≤ 1048576) (h : n ≤ 9223372036854775807) :
    Calls Tryd.prog 24 #[.slice a n cap, .int .i64 k] w fun e w' => e = .returned (.int .i64 (if k < n then -1 else k - n)) ∧ Below w.heap.size w w' := by
  by_cases hl : k < n
  · rw [if_pos hl]
    go_enter Tryd.func24, Tryd.ntmps24
    go_wp2_with fail
    go_ret
    exact ⟨rfl, Below.refl _ _⟩
  · rw [if_neg hl]
    go_enter Tryd.func24, Tryd.ntmps24
    go_wp2_with fail
    go_ret
    exact ⟨rfl, Below.refl _ _⟩
end Go.Proofs.YtigaepbhbfpijaaDoor

/- The laws' marks and sizes of slices of ids. -/
namespace Go.Proofs.YtigaepbhbfpijaaDoor
open Go.RowKit
set_option linter.unusedVariables false

theorem OwnP.cap_le {w : World} {b : Nat} {v : Value} {C : List Pid} (h : OwnP w b v C) : C.length ≤ 2000000 := by
  obtain ⟨_, _, _, _, _, _, h, _⟩ := h; exact h

/-- Marks from k on, two an id. -/
def MarkedP (k : Int) (M : List Pid) : Prop := ∀ j : Nat, j < M.length → M.getD j nop = (k + 2 * j, k + 2 * j + 1)

theorem markP_up {M : List Pid} {k0 : Int} {k : Nat} (hM : k < M.length) (h : ∀ j : Nat, j < k → M.getD j nop = (k0 + 2 * j, k0 + 2 * j + 1)) : ∀ j : Nat, j < k + 1 → (M.set k (k0 + 2 * k, k0 + 2 * k + 1)).getD j nop = (k0 + 2 * j, k0 + 2 * j + 1) := by
  intro j hj
  by_cases e : j = k
  · subst e; rw [List.getD_eq_getElem?_getD, List.getElem?_set_self hM]; rfl
  · rw [List.getD_eq_getElem?_getD, List.getElem?_set_ne (fun x => e x.symm), ← List.getD_eq_getElem?_getD]; exact h j (by omega)

set_option maxRecDepth 100000 in
set_option maxHeartbeats 2000000 in
theorem markP_any (b : Nat) (u : Value) (C : List Pid) (k0 : Int) (w : World) (h : OwnP w b u C) (h0 : 0 ≤ k0) (h1 : k0 ≤ 1000000000) :
    Calls Tryd.prog 27 #[u, .int .i64 k0] w fun e w' => e = .returned (.int .i64 (k0 + 2 * C.length)) ∧ ∃ M, M.length = C.length ∧ MarkedP k0 M ∧ OwnP w' b u M ∧ Keep w.heap.size b w w' := by
  have hm := h.cap_le
  obtain ⟨cap, rfl, hcap⟩ := h.shape
  obtain ⟨n, hn⟩ : ∃ n, Hid (C.length = n) := ⟨_, Lib.hid rfl⟩
  rw [hn.out] at h hcap hm ⊢
  have h := Lib.hid h
  go_enter Tryd.func27, Tryd.ntmps27
  go_wp2_with fail
  go_loopw [1, 5] (fun q i wr => ∃ k : Nat, k ≤ n ∧ i = .int .i64 k ∧ q = .int .i64 (k0 + 2 * k) ∧ ∃ M : List Pid, Hid (M.length = n ∧ (∀ j : Nat, j < k → M.getD j nop = (k0 + 2 * j, k0 + 2 * j + 1)) ∧ OwnP wr b (.slice (some ⟨b, 0, none⟩) n cap) M) ∧ Hid (Keep w.heap.size b w wr)) (fun _ i _ => n - (intOf i).toNat)
  case atStart => exact ⟨0, Nat.zero_le _, rfl, by simp, C, Lib.hid ⟨hn.out, fun j hj => absurd hj (Nat.not_lt_zero _), h.out⟩, Lib.hid (Keep.refl _ _ _)⟩
  case round =>
    obtain ⟨k, hk, rfl, rfl, M, hM, hnx⟩ := hrel
    clear h
    by_cases hlt : k < n
    · obtain ⟨c0, c1⟩ := hM.out.2.2.cell k (by rw [hM.out.1]; exact hlt)
      have f0 := hM.out.2.2.free (k * 2)
      have f1 := hM.out.2.2.free (k * 2 + 1)
      have hs := hM.out.2.2.lt
      have R := Lib.hid (hM.out.2.2.set k (by rw [hM.out.1]; exact hlt) (k0 + 2 * k, k0 + 2 * k + 1))
      have R2 := Lib.hid (markP_up (by rw [hM.out.1]; exact hlt) hM.out.2.1)
      have hl := Lib.hid hM.out.1
      generalize M.getD k nop = y at c0 c1
      clear hM
      go_wp2_with fail
      go_roundw
      case rel => exact ⟨k + 1, by omega, by go_num, by go_num, M.set k (k0 + 2 * k, k0 + 2 * k + 1), Lib.hid ⟨by rw [List.length_set]; exact hl.out, R2.out, R.out⟩, Lib.hid ((hnx.out.setR _ _).setR _ _)⟩
      case measure => simp [intOf]; omega
    · obtain rfl : k = n := by omega
      go_wp2_with fail
      go_ret
      refine ⟨rfl, M, hM.out.1, ?_, hM.out.2.2, hnx.out⟩
      intro j hj
      exact hM.out.2.1 j (by rw [← hM.out.1]; exact hj)

set_option maxRecDepth 100000 in
set_option maxHeartbeats 2000000 in
theorem heldP_at (b off ca : Nat) (k0 : Int) (M : List Pid) (w : World) (hM : MarkedP k0 M) (hb : b < w.heap.size) (hm : M.length ≤ 2000000) (h : ∀ i, i < M.length → w.cell? ⟨b, off + i * 2, none⟩ = some (.int .i64 (M.getD i nop).1) ∧ w.cell? ⟨b, off + i * 2 + 1, none⟩ = some (.int .i64 (M.getD i nop).2)) (h0 : 0 ≤ k0) (h1 : k0 ≤ 1000000000) :
    Calls Tryd.prog 28 #[.slice (some ⟨b, off, none⟩) M.length ca, .int .i64 k0] w fun e w' => e = .returned (.int .i64 (k0 + 2 * M.length)) ∧ Below w.heap.size w w' := by
  have h : Hid (∀ i, i < M.length → w.cell? ⟨b, off + i * 2, none⟩ = some (.int .i64 (k0 + 2 * i)) ∧ w.cell? ⟨b, off + i * 2 + 1, none⟩ = some (.int .i64 (k0 + 2 * i + 1))) := Lib.hid fun i hi => by
    have := h i hi
    rw [hM i hi] at this
    exact this
  clear hM
  generalize M.length = n at hm h ⊢
  go_enter Tryd.func28, Tryd.ntmps28
  go_wp2_with fail
  go_loopw [1, 5] (fun q i wr => ∃ k : Nat, k ≤ n ∧ i = .int .i64 k ∧ q = .int .i64 (k0 + 2 * k) ∧ Below w.heap.size w wr) (fun _ i _ => n - (intOf i).toNat)
  case atStart => exact ⟨0, Nat.zero_le _, rfl, by simp, Below.refl _ _⟩
  case round =>
    obtain ⟨k, hk, rfl, rfl, hnx⟩ := hrel
    by_cases hlt : k < n
    · have c0 := (hnx.cell (p := ⟨b, off + k * 2, none⟩) hb).trans (h.out k hlt).1
      have c1 := (hnx.cell (p := ⟨b, off + k * 2 + 1, none⟩) hb).trans (h.out k hlt).2
      have hnx := Lib.hid hnx
      go_wp2_with fail
      go_roundw
      case rel => exact ⟨k + 1, by omega, by go_num, by go_num, hnx.out⟩
      case measure => simp [intOf]; omega
    · obtain rfl : k = n := by omega
      have hnx := Lib.hid hnx
      go_wp2_with fail
      go_ret
      exact ⟨rfl, hnx.out⟩

theorem heldP_nil (a : Option Addr) (ca : Nat) (k0 : Int) (w : World) :
    Calls Tryd.prog 28 #[.slice a 0 ca, .int .i64 k0] w fun e w' => e = .returned (.int .i64 (k0 + 2 * (0 : Nat))) ∧ Below w.heap.size w w' := by
  go_enter Tryd.func28, Tryd.ntmps28
  go_wp2_with fail
  refine wp_loop_rounds 1 ?_
  rw [rounds_succ]
  go_wp2_with fail
  go_ret
  exact ⟨by simp, Below.refl _ _⟩

/-- THE MARKS ARE THERE. -/
theorem heldP_any (u : Value) (k0 : Int) (M : List Pid) (w : World) (hM : MarkedP k0 M) (h : Ids w u M) (h0 : 0 ≤ k0) (h1 : k0 ≤ 1000000000) :
    Calls Tryd.prog 28 #[u, .int .i64 k0] w fun e w' => e = .returned (.int .i64 (k0 + 2 * M.length)) ∧ Below w.heap.size w w' := by
  obtain ⟨a, cap, rfl, h2, h3, h4⟩ := h
  rcases h4 with h4 | ⟨b, off, rfl, h5, h6⟩
  · rw [h4]
    exact heldP_nil a cap k0 w
  · exact heldP_at b off cap k0 M w hM h5 h3 h6 h0 h1
end Go.Proofs.YtigaepbhbfpijaaDoor

/- The walk of FnExactDepsJoin. -/
namespace Go.Proofs.YtigaepbhbfpijaaDoor
open Go.RowKit
set_option linter.unusedVariables false

theorem kstep4 {w wc w' : World} {r : Nat} (D : Below w.heap.size w wc) (hk : Keep wc.heap.size r wc w') (hr : w.heap.size ≤ r) : Below w.heap.size w w' := D.trans ((hk.mono D.size).below hr)
theorem ids_len {w : World} {a : Option Addr} {len cap : Nat} {C : List Pid} (h : Ids w (.slice a len cap) C) : C.length = len := by
  obtain ⟨a', cap', e, _⟩ := h
  injection e with _ e2 _
  exact e2.symm
theorem joinR_len (a b : List Pid) : (joinR a b).1.length ≤ 12 := by
  unfold joinR; split
  · rename_i h; exact h.2.2
  · simp

set_option maxRecDepth 100000 in
set_option maxHeartbeats 8000000 in
theorem exDepsJoin_any (a : Option Addr) (len cap : Nat) (a' : Option Addr) (len' cap' : Nat) (w : World) (hlm : len ≤ maxLen) (h : 1048576 < len ∨ ∃ C, Ids w (.slice a len cap) C) (hlm' : len' ≤ maxLen) (h' : 1048576 < len' ∨ ∃ C, Ids w (.slice a' len' cap') C) (hT : TabIn w) :
    Calls Tryd.prog 9 #[.slice a len cap, .slice a' len' cap'] w fun e w' => e = .returned (.bool true) ∧ Below w.heap.size w w' := by
  have hT := Lib.hid hT
  have hm : len ≤ 9223372036854775807 := by simpa [maxLen] using hlm
  have hm' : len' ≤ 9223372036854775807 := by simpa [maxLen] using hlm'
  clear hlm hlm'
  have sz := szP_any a len cap 1048576
  by_cases hl : 1048576 < len
  · rw [if_pos hl] at sz
    clear h h' hT
    go_enter Tryd.func9, Tryd.ntmps9
    go_wp2_with fail
    refine (sz _ (by trivial) hm).mono ?_
    rintro e w1 ⟨rfl, hb⟩
    have D1 := Lib.hid hb
    clear hb sz
    go_wp2_with fail
    go_ret
    exact ⟨rfl, D1.out⟩
  · rw [if_neg hl] at sz
    obtain ⟨A, hU⟩ := h.resolve_left hl
    have hlA := Lib.hid (ids_len hU)
    have sz2 := fun w => szP_gen a' len' cap' (1048576 - (len : Int)) w (by omega) (by omega) hm'
    by_cases hl2 : (1048576 - (len : Int)) < len'
    · simp only [if_pos hl2] at sz2
      clear h h' hU hT
      go_enter Tryd.func9, Tryd.ntmps9
      go_wp2_with fail
      refine (sz _ (by trivial) hm).mono ?_
      rintro e w1 ⟨rfl, hb⟩
      have D1 := Lib.hid hb
      clear hb sz
      go_wp2_with fail
      refine (sz2 _).mono ?_
      rintro e w2 ⟨rfl, hb⟩
      have D2 := Lib.hid (bstep D1.out hb)
      clear hb sz2 D1
      go_wp2_with fail
      go_ret
      exact ⟨rfl, D2.out⟩
    · simp only [if_neg hl2] at sz2
      obtain ⟨B, hV⟩ := h'.resolve_left (by omega)
      have hlB := Lib.hid (ids_len hV)
      have hU := Lib.hid hU
      have hV := Lib.hid hV
      have hC3 : Hid ((joinR A B).1.length ≤ 12) := Lib.hid (joinR_len A B)
      obtain ⟨S, fl, hR⟩ : ∃ S fl, Hid (joinR A B = (S, fl)) := ⟨_, _, Lib.hid rfl⟩
      rw [hR.out] at hC3
      clear h h'
      go_enter Tryd.func9, Tryd.ntmps9
      go_wp2_with fail
      refine (sz _ (by trivial) hm).mono ?_
      rintro e w1 ⟨rfl, hb⟩
      have D := Lib.hid hb
      clear hb sz
      go_wp2_with fail
      refine (sz2 _).mono ?_
      rintro e w2 ⟨rfl, hb⟩
      replace D := Lib.hid (bstep D.out hb)
      clear hb sz2
      go_wp2_with fail
      refine (toP_any _ A _ (hU.out.up D.out (Nat.le_refl _))).mono ?_
      rintro e w3 ⟨p1, uP1, hp1, rfl, P1, hb⟩
      have Gp1 := Nat.le_trans D.out.size hp1
      have Lp1 := P1.lt
      have P1 := Lib.hid P1
      replace D := Lib.hid (bstep D.out hb)
      clear hb
      go_wp2_with fail
      refine (toP_any _ B _ (hV.out.up D.out (Nat.le_refl _))).mono ?_
      rintro e w4 ⟨p2, uP2, hp2, rfl, P2, hb⟩
      have Gp2 := Nat.le_trans D.out.size hp2
      have Lp2 := P2.lt
      have P2 := Lib.hid P2
      replace P1 := Lib.hid (P1.out.up hb P1.out.lt)
      replace D := Lib.hid (bstep D.out hb)
      clear hb
      go_wp2_with fail
      refine (sdj_any _ _ A B _ P1.out.read P2.out.read).mono ?_
      rintro e w5 ⟨g4, v4, hg4, rfl, O4, hb⟩
      rw [hR.out] at O4 ⊢
      dsimp only at O4 ⊢
      have Gg4 := Nat.le_trans D.out.size hg4
      have L4 := O4.lt
      have O4 := Lib.hid O4
      replace D := Lib.hid (bstep D.out hb)
      clear hb
      clear P1 P2
      go_wp2_with fail
      refine (toP_any _ A _ (hU.out.up D.out (Nat.le_refl _))).mono ?_
      rintro e w6 ⟨b6, uO6, hb6, rfl, O6, hb⟩
      have N46 : g4 ≠ b6 := by have := O4.out.lt; omega
      have Gb6 := Nat.le_trans D.out.size hb6
      have Lb6 := O6.lt
      have O6 := Lib.hid O6
      replace O4 := Lib.hid (O4.out.up hb O4.out.lt)
      replace D := Lib.hid (bstep D.out hb)
      clear hb
      go_wp2_with fail
      refine (toP_any _ B _ (hV.out.up D.out (Nat.le_refl _))).mono ?_
      rintro e w7 ⟨b7, uO7, hb7, rfl, O7, hb⟩
      have N47 : g4 ≠ b7 := by have := O4.out.lt; omega
      have N67 : b6 ≠ b7 := by have := O6.out.lt; omega
      have Gb7 := Nat.le_trans D.out.size hb7
      have Lb7 := O7.lt
      have O7 := Lib.hid O7
      replace O4 := Lib.hid (O4.out.up hb O4.out.lt)
      replace O6 := Lib.hid (O6.out.up hb O6.out.lt)
      replace D := Lib.hid (bstep D.out hb)
      clear hb
      go_wp2_with fail
      refine (djoin_any _ _ A B _ O6.out.read O7.out.read (hT.out.up D.out (Nat.le_refl _))).mono ?_
      rintro e w8 ⟨g8, v8, hg8, rfl, O8, hb⟩
      have N48 : g4 ≠ g8 := by have := O4.out.lt; omega
      have N68 : b6 ≠ g8 := by have := O6.out.lt; omega
      have N78 : b7 ≠ g8 := by have := O7.out.lt; omega
      rw [hR.out] at O8 ⊢
      dsimp only at O8 ⊢
      have Gg8 := Nat.le_trans D.out.size hg8
      have O8 := Lib.hid O8
      replace O4 := Lib.hid (O4.out.up hb O4.out.lt)
      replace O6 := Lib.hid (O6.out.up hb O6.out.lt)
      replace O7 := Lib.hid (O7.out.up hb O7.out.lt)
      replace D := Lib.hid (bstep D.out hb)
      clear hb
      go_wp2_with fail
      refine (eqP_any _ _ S _ O8.out.read O4.out.read).mono ?_
      rintro e w9 ⟨rfl, hb⟩
      replace O4 := Lib.hid (O4.out.up hb O4.out.lt)
      replace O6 := Lib.hid (O6.out.up hb O6.out.lt)
      replace O7 := Lib.hid (O7.out.up hb O7.out.lt)
      replace O8 := Lib.hid (O8.out.up hb O8.out.lt)
      replace D := Lib.hid (bstep D.out hb)
      clear hb
      go_wp2_with fail
      refine (toP_any _ A _ (hU.out.up D.out (Nat.le_refl _))).mono ?_
      rintro e w10 ⟨q0, uQ, hq0, rfl, Q, hb⟩
      have Gq0 := Nat.le_trans D.out.size hq0
      have Lq0 := Q.lt
      have Q := Lib.hid Q
      replace O4 := Lib.hid (O4.out.up hb O4.out.lt)
      replace O6 := Lib.hid (O6.out.up hb O6.out.lt)
      replace O7 := Lib.hid (O7.out.up hb O7.out.lt)
      replace O8 := Lib.hid (O8.out.up hb O8.out.lt)
      replace D := Lib.hid (bstep D.out hb)
      clear hb
      go_wp2_with fail
      refine (eqP_any _ _ A _ O6.out.read Q.out.read).mono ?_
      rintro e w11 ⟨rfl, hb⟩
      replace O4 := Lib.hid (O4.out.up hb O4.out.lt)
      replace O6 := Lib.hid (O6.out.up hb O6.out.lt)
      replace O7 := Lib.hid (O7.out.up hb O7.out.lt)
      replace O8 := Lib.hid (O8.out.up hb O8.out.lt)
      replace Q := Lib.hid (Q.out.up hb Q.out.lt)
      replace D := Lib.hid (bstep D.out hb)
      clear hb
      clear Q
      go_wp2_with fail
      refine (toP_any _ B _ (hV.out.up D.out (Nat.le_refl _))).mono ?_
      rintro e w12 ⟨q1, uQ, hq1, rfl, Q, hb⟩
      have Gq1 := Nat.le_trans D.out.size hq1
      have Lq1 := Q.lt
      have Q := Lib.hid Q
      replace O4 := Lib.hid (O4.out.up hb O4.out.lt)
      replace O6 := Lib.hid (O6.out.up hb O6.out.lt)
      replace O7 := Lib.hid (O7.out.up hb O7.out.lt)
      replace O8 := Lib.hid (O8.out.up hb O8.out.lt)
      replace D := Lib.hid (bstep D.out hb)
      clear hb
      go_wp2_with fail
      refine (eqP_any _ _ B _ O7.out.read Q.out.read).mono ?_
      rintro e w13 ⟨rfl, hb⟩
      replace O4 := Lib.hid (O4.out.up hb O4.out.lt)
      replace O6 := Lib.hid (O6.out.up hb O6.out.lt)
      replace O7 := Lib.hid (O7.out.up hb O7.out.lt)
      replace O8 := Lib.hid (O8.out.up hb O8.out.lt)
      replace Q := Lib.hid (Q.out.up hb Q.out.lt)
      replace D := Lib.hid (bstep D.out hb)
      clear hb
      clear Q
      go_wp2_with fail
      refine (markP_any b6 _ A (1) _ O6.out (by omega) (by omega)).mono ?_
      rintro e w14 ⟨rfl, M14, hM, hMk, OM, hb⟩
      replace O4 := Lib.hid (O4.out.stay hb N46)
      replace O7 := Lib.hid (O7.out.stay hb (fun e => N67 e.symm))
      replace O8 := Lib.hid (O8.out.stay hb (fun e => N68 e.symm))
      replace D := Lib.hid (kstep4 D.out hb Gb6)
      clear hb OM hMk hM O6
      rw [hlA.out]
      go_wp2_with fail
      refine (markP_any b7 _ B (1 + 2 * (len : Int)) _ O7.out (by omega) (by omega)).mono ?_
      rintro e w15 ⟨rfl, M15, hM, hMk, OM, hb⟩
      replace O4 := Lib.hid (O4.out.stay hb N47)
      replace O8 := Lib.hid (O8.out.stay hb (fun e => N78 e.symm))
      replace D := Lib.hid (kstep4 D.out hb Gb7)
      clear hb OM hMk hM O7
      rw [hlB.out]
      go_wp2_with fail
      refine (eqP_any _ _ S _ O8.out.read O4.out.read).mono ?_
      rintro e w16 ⟨rfl, hb⟩
      replace O4 := Lib.hid (O4.out.up hb O4.out.lt)
      replace O8 := Lib.hid (O8.out.up hb O8.out.lt)
      replace D := Lib.hid (bstep D.out hb)
      clear hb
      obtain ⟨ns, hns⟩ : ∃ ns, Hid (S.length = ns) := ⟨_, Lib.hid rfl⟩
      have hl1 := hC3.out
      rw [hns.out] at hl1
      go_wp2_with fail
      refine (markP_any g8 _ S (1) _ O8.out (by omega) (by omega)).mono ?_
      rintro e w17 ⟨rfl, M17, hM, hMk, OM, hb⟩
      replace O4 := Lib.hid (O4.out.stay hb N48)
      replace D := Lib.hid (kstep4 D.out hb Gg8)
      replace O8 := Lib.hid OM
      have hMk := Lib.hid hMk
      have hM := Lib.hid hM
      clear hb OM
      rw [hns.out]
      go_wp2_with fail
      refine (heldP_any _ 1 M17 _ hMk.out O8.out.read (by omega) (by omega)).mono ?_
      rw [hM.out, hns.out]
      rintro e w18 ⟨rfl, hb⟩
      replace O4 := Lib.hid (O4.out.up hb O4.out.lt)
      replace O8 := Lib.hid (O8.out.up hb O8.out.lt)
      replace D := Lib.hid (bstep D.out hb)
      clear hb
      go_wp2_with fail
      refine (toP_any _ A _ (hU.out.up D.out (Nat.le_refl _))).mono ?_
      rintro e w19 ⟨r1, uR1, hr1, rfl, R1, hb⟩
      have Gr1 := Nat.le_trans D.out.size hr1
      have Lr1 := R1.lt
      have R1 := Lib.hid R1
      replace O4 := Lib.hid (O4.out.up hb O4.out.lt)
      replace O8 := Lib.hid (O8.out.up hb O8.out.lt)
      replace D := Lib.hid (bstep D.out hb)
      clear hb
      go_wp2_with fail
      refine (toP_any _ B _ (hV.out.up D.out (Nat.le_refl _))).mono ?_
      rintro e w20 ⟨r2, uR2, hr2, rfl, R2, hb⟩
      have Gr2 := Nat.le_trans D.out.size hr2
      have Lr2 := R2.lt
      have R2 := Lib.hid R2
      replace O4 := Lib.hid (O4.out.up hb O4.out.lt)
      replace O8 := Lib.hid (O8.out.up hb O8.out.lt)
      replace R1 := Lib.hid (R1.out.up hb R1.out.lt)
      replace D := Lib.hid (bstep D.out hb)
      clear hb
      go_wp2_with fail
      refine (djoin_any _ _ A B _ R1.out.read R2.out.read (hT.out.up D.out (Nat.le_refl _))).mono ?_
      rintro e w21 ⟨g9, v9, hg9, rfl, O9, hb⟩
      rw [hR.out] at O9 ⊢
      dsimp only at O9 ⊢
      have O9 := Lib.hid O9
      replace O4 := Lib.hid (O4.out.up hb O4.out.lt)
      replace O8 := Lib.hid (O8.out.up hb O8.out.lt)
      replace D := Lib.hid (bstep D.out hb)
      clear hb
      clear R1 R2
      go_wp2_with fail
      refine (eqP_any _ _ S _ O9.out.read O4.out.read).mono ?_
      rintro e w22 ⟨rfl, hb⟩
      replace O4 := Lib.hid (O4.out.up hb O4.out.lt)
      replace O8 := Lib.hid (O8.out.up hb O8.out.lt)
      replace D := Lib.hid (bstep D.out hb)
      clear hb
      clear O9 O4
      go_wp2_with fail
      refine (heldP_any _ 1 M17 _ hMk.out O8.out.read (by omega) (by omega)).mono ?_
      rw [hM.out, hns.out]
      rintro e w23 ⟨rfl, hb⟩
      replace O8 := Lib.hid (O8.out.up hb O8.out.lt)
      replace D := Lib.hid (bstep D.out hb)
      clear hb
      go_wp2_with fail
      go_ret
      exact ⟨rfl, D.out⟩
end Go.Proofs.YtigaepbhbfpijaaDoor

/- The walk of FnExactDepsLatest. -/
namespace Go.Proofs.YtigaepbhbfpijaaDoor
open Go.RowKit
set_option linter.unusedVariables false

theorem kstep4 {w wc w' : World} {r : Nat} (D : Below w.heap.size w wc) (hk : Keep wc.heap.size r wc w') (hr : w.heap.size ≤ r) : Below w.heap.size w w' := D.trans ((hk.mono D.size).below hr)
theorem ids_len {w : World} {a : Option Addr} {len cap : Nat} {C : List Pid} (h : Ids w (.slice a len cap) C) : C.length = len := by
  obtain ⟨a', cap', e, _⟩ := h
  injection e with _ e2 _
  exact e2.symm

set_option maxRecDepth 100000 in
set_option maxHeartbeats 8000000 in
theorem exDepsLatest_any (a : Option Addr) (len cap : Nat) (w : World) (hlm : len ≤ maxLen) (h : 1048576 < len ∨ ∃ C, Ids w (.slice a len cap) C) (hT : TabIn w) :
    Calls Tryd.prog 10 #[.slice a len cap] w fun e w' => e = .returned (.bool true) ∧ Below w.heap.size w w' := by
  have hT := Lib.hid hT
  have hm : len ≤ 9223372036854775807 := by simpa [maxLen] using hlm
  clear hlm
  have sz := szP_any a len cap 1048576
  by_cases hl : 1048576 < len
  · rw [if_pos hl] at sz
    clear h hT
    go_enter Tryd.func10, Tryd.ntmps10
    go_wp2_with fail
    refine (sz _ (by trivial) hm).mono ?_
    rintro e w1 ⟨rfl, hb⟩
    have D1 := Lib.hid hb
    clear hb sz
    go_wp2_with fail
    go_ret
    exact ⟨rfl, D1.out⟩
  · rw [if_neg hl] at sz
    obtain ⟨A, hU⟩ := h.resolve_left hl
    have hlA := Lib.hid (ids_len hU)
    have hU := Lib.hid hU
    skip
    have hC3 : Hid ((latR A).length ≤ 12) := Lib.hid (latR_len A)
    obtain ⟨S, hR⟩ : ∃ S, Hid (latR A = S) := ⟨_, Lib.hid rfl⟩
    rw [hR.out] at hC3
    clear h
    go_enter Tryd.func10, Tryd.ntmps10
    go_wp2_with fail
    refine (sz _ (by trivial) hm).mono ?_
    rintro e w1 ⟨rfl, hb⟩
    have D := Lib.hid hb
    clear hb sz
    go_wp2_with fail
    refine (toP_any _ A _ (hU.out.up D.out (Nat.le_refl _))).mono ?_
    rintro e w2 ⟨p1, uP1, hp1, rfl, P1, hb⟩
    have Gp1 := Nat.le_trans D.out.size hp1
    have Lp1 := P1.lt
    have P1 := Lib.hid P1
    replace D := Lib.hid (bstep D.out hb)
    clear hb
    go_wp2_with fail
    refine (slat_any _ A _ P1.out.read).mono ?_
    rintro e w3 ⟨g4, v4, hg4, rfl, O4, hb⟩
    rw [hR.out] at O4
    have Gg4 := Nat.le_trans D.out.size hg4
    have L4 := O4.lt
    have O4 := Lib.hid O4
    replace D := Lib.hid (bstep D.out hb)
    clear hb
    clear P1
    go_wp2_with fail
    refine (toP_any _ A _ (hU.out.up D.out (Nat.le_refl _))).mono ?_
    rintro e w4 ⟨b6, uO6, hb6, rfl, O6, hb⟩
    have N46 : g4 ≠ b6 := by have := O4.out.lt; omega
    have Gb6 := Nat.le_trans D.out.size hb6
    have Lb6 := O6.lt
    have O6 := Lib.hid O6
    replace O4 := Lib.hid (O4.out.up hb O4.out.lt)
    replace D := Lib.hid (bstep D.out hb)
    clear hb
    go_wp2_with fail
    refine (dlat_any _ A _ O6.out.read (hT.out.up D.out (Nat.le_refl _))).mono ?_
    rintro e w5 ⟨g8, v8, hg8, rfl, O8, hb⟩
    have N48 : g4 ≠ g8 := by have := O4.out.lt; omega
    have N68 : b6 ≠ g8 := by have := O6.out.lt; omega
    rw [hR.out] at O8
    have Gg8 := Nat.le_trans D.out.size hg8
    have O8 := Lib.hid O8
    replace O4 := Lib.hid (O4.out.up hb O4.out.lt)
    replace O6 := Lib.hid (O6.out.up hb O6.out.lt)
    replace D := Lib.hid (bstep D.out hb)
    clear hb
    go_wp2_with fail
    refine (eqP_any _ _ S _ O8.out.read O4.out.read).mono ?_
    rintro e w6 ⟨rfl, hb⟩
    replace O4 := Lib.hid (O4.out.up hb O4.out.lt)
    replace O6 := Lib.hid (O6.out.up hb O6.out.lt)
    replace O8 := Lib.hid (O8.out.up hb O8.out.lt)
    replace D := Lib.hid (bstep D.out hb)
    clear hb
    go_wp2_with fail
    refine (toP_any _ A _ (hU.out.up D.out (Nat.le_refl _))).mono ?_
    rintro e w7 ⟨q0, uQ, hq0, rfl, Q, hb⟩
    have Gq0 := Nat.le_trans D.out.size hq0
    have Lq0 := Q.lt
    have Q := Lib.hid Q
    replace O4 := Lib.hid (O4.out.up hb O4.out.lt)
    replace O6 := Lib.hid (O6.out.up hb O6.out.lt)
    replace O8 := Lib.hid (O8.out.up hb O8.out.lt)
    replace D := Lib.hid (bstep D.out hb)
    clear hb
    go_wp2_with fail
    refine (eqP_any _ _ A _ O6.out.read Q.out.read).mono ?_
    rintro e w8 ⟨rfl, hb⟩
    replace O4 := Lib.hid (O4.out.up hb O4.out.lt)
    replace O6 := Lib.hid (O6.out.up hb O6.out.lt)
    replace O8 := Lib.hid (O8.out.up hb O8.out.lt)
    replace Q := Lib.hid (Q.out.up hb Q.out.lt)
    replace D := Lib.hid (bstep D.out hb)
    clear hb
    clear Q
    go_wp2_with fail
    refine (markP_any b6 _ A (1) _ O6.out (by omega) (by omega)).mono ?_
    rintro e w9 ⟨rfl, M9, hM, hMk, OM, hb⟩
    replace O4 := Lib.hid (O4.out.stay hb N46)
    replace O8 := Lib.hid (O8.out.stay hb (fun e => N68 e.symm))
    replace D := Lib.hid (kstep4 D.out hb Gb6)
    clear hb OM hMk hM O6
    rw [hlA.out]
    go_wp2_with fail
    refine (eqP_any _ _ S _ O8.out.read O4.out.read).mono ?_
    rintro e w10 ⟨rfl, hb⟩
    replace O4 := Lib.hid (O4.out.up hb O4.out.lt)
    replace O8 := Lib.hid (O8.out.up hb O8.out.lt)
    replace D := Lib.hid (bstep D.out hb)
    clear hb
    obtain ⟨ns, hns⟩ : ∃ ns, Hid (S.length = ns) := ⟨_, Lib.hid rfl⟩
    have hl1 := hC3.out
    rw [hns.out] at hl1
    go_wp2_with fail
    refine (markP_any g8 _ S (1) _ O8.out (by omega) (by omega)).mono ?_
    rintro e w11 ⟨rfl, M11, hM, hMk, OM, hb⟩
    replace O4 := Lib.hid (O4.out.stay hb N48)
    replace D := Lib.hid (kstep4 D.out hb Gg8)
    replace O8 := Lib.hid OM
    have hMk := Lib.hid hMk
    have hM := Lib.hid hM
    clear hb OM
    rw [hns.out]
    go_wp2_with fail
    refine (heldP_any _ 1 M11 _ hMk.out O8.out.read (by omega) (by omega)).mono ?_
    rw [hM.out, hns.out]
    rintro e w12 ⟨rfl, hb⟩
    replace O4 := Lib.hid (O4.out.up hb O4.out.lt)
    replace O8 := Lib.hid (O8.out.up hb O8.out.lt)
    replace D := Lib.hid (bstep D.out hb)
    clear hb
    go_wp2_with fail
    refine (toP_any _ A _ (hU.out.up D.out (Nat.le_refl _))).mono ?_
    rintro e w13 ⟨r1, uR1, hr1, rfl, R1, hb⟩
    have Gr1 := Nat.le_trans D.out.size hr1
    have Lr1 := R1.lt
    have R1 := Lib.hid R1
    replace O4 := Lib.hid (O4.out.up hb O4.out.lt)
    replace O8 := Lib.hid (O8.out.up hb O8.out.lt)
    replace D := Lib.hid (bstep D.out hb)
    clear hb
    go_wp2_with fail
    refine (dlat_any _ A _ R1.out.read (hT.out.up D.out (Nat.le_refl _))).mono ?_
    rintro e w14 ⟨g9, v9, hg9, rfl, O9, hb⟩
    rw [hR.out] at O9
    have O9 := Lib.hid O9
    replace O4 := Lib.hid (O4.out.up hb O4.out.lt)
    replace O8 := Lib.hid (O8.out.up hb O8.out.lt)
    replace D := Lib.hid (bstep D.out hb)
    clear hb
    clear R1
    go_wp2_with fail
    refine (eqP_any _ _ S _ O9.out.read O4.out.read).mono ?_
    rintro e w15 ⟨rfl, hb⟩
    replace O4 := Lib.hid (O4.out.up hb O4.out.lt)
    replace O8 := Lib.hid (O8.out.up hb O8.out.lt)
    replace D := Lib.hid (bstep D.out hb)
    clear hb
    clear O9 O4
    go_wp2_with fail
    refine (heldP_any _ 1 M11 _ hMk.out O8.out.read (by omega) (by omega)).mono ?_
    rw [hM.out, hns.out]
    rintro e w16 ⟨rfl, hb⟩
    replace O8 := Lib.hid (O8.out.up hb O8.out.lt)
    replace D := Lib.hid (bstep D.out hb)
    clear hb
    go_wp2_with fail
    go_ret
    exact ⟨rfl, D.out⟩
end Go.Proofs.YtigaepbhbfpijaaDoor
