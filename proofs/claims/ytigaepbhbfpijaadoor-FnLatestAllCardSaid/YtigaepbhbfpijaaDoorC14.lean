/- Texts laid together. -/
import Derived.Test.YtigaepbhbfpijaaDoorC13
/- The walk of FnLatestAll. -/
namespace Go.Proofs.YtigaepbhbfpijaaDoor
open Go.RowKit
set_option linter.unusedVariables false

theorem last_some : ∀ {L : List Pid} {x : Pid}, x ∈ L → ∃ y, y ∈ lastP L ∧ y.1 = x.1
  | [], x, h => by simp at h
  | [a], x, h => ⟨a, by simp [lastP], by rw [List.mem_singleton.1 h]⟩
  | a :: b :: r, x, h => by
    by_cases e : b.1 = a.1
    · rw [last_same e]
      rcases List.mem_cons.1 h with rfl | h
      · obtain ⟨y, h1, h2⟩ := last_some (L := b :: r) (x := b) List.mem_cons_self
        exact ⟨y, h1, h2.trans e⟩
      · exact last_some h
    · rw [last_next e]
      rcases List.mem_cons.1 h with rfl | h
      · exact ⟨x, List.mem_cons_self, rfl⟩
      · obtain ⟨y, h1, h2⟩ := last_some h
        exact ⟨y, List.mem_cons_of_mem _ h1, h2⟩
theorem lat_some {C : List Pid} (hq : srtB C = true) {k : Nat} (hk : k < C.length) : ∃ i, i < (latR C).length ∧ ((latR C).getD i nop).1 = (C.getD k nop).1 := by
  rw [latR_t hq]
  obtain ⟨y, h1, h2⟩ := last_some (getD_mem hk)
  obtain ⟨i, hi, e⟩ := List.getElem_of_mem h1
  refine ⟨i, hi, ?_⟩
  rw [List.getD_eq_getElem?_getD, List.getElem?_eq_getElem hi, Option.getD_some, e, h2]
theorem lat_twice {C : List Pid} (hq : srtB C = true) : latR (latR C) = latR C := by
  obtain ⟨h1, h2, h3⟩ := srt_of hq
  rw [latR_t hq]
  have hs : srtB (lastP C) = true := srt_to (Nat.le_trans (last_sub C).length_le h1) (List.all_eq_true.2 fun x hx => List.all_eq_true.1 h2 x ((last_sub C).subset hx)) (last_asc h3)
  rw [latR_t hs]
  refine asc_ext (last_asc (last_asc h3)) (last_asc h3) (fun x => ?_)
  rw [mem_last (last_asc h3)]
  exact ⟨fun h => h.1, fun h => ⟨h, fun y hy e => ((mem_last h3 x).1 h).2 y ((last_sub C).subset hy) e⟩⟩
theorem any_next {P : Nat → Prop} {q : Bool} {k : Nat} (h : q = true ↔ ∃ i, i < k ∧ P i) (d : Bool) (hd : d = true ↔ P k) : (q || d) = true ↔ ∃ i, i < k + 1 ∧ P i := by
  rw [Bool.or_eq_true, h, hd]
  constructor
  · rintro (⟨i, h1, h2⟩ | h1)
    · exact ⟨i, by omega, h2⟩
    · exact ⟨k, by omega, h1⟩
  · rintro ⟨i, h1, h2⟩
    rcases Nat.lt_or_ge i k with h3 | h3
    · exact .inl ⟨i, h3, h2⟩
    · obtain rfl : i = k := by omega
      exact .inr h2

set_option maxRecDepth 100000 in
set_option maxHeartbeats 8000000 in
theorem fnLatestAll_walk (a : Option Addr) (len cap : Nat) (w : World) (hc : CodeIn w a len cap) (hcap : cap ≤ maxLen) (hT : TabIn w) :
    Calls Tryd.prog 8 #[.slice a len cap] w fun e w' => e = .returned (.bool true) ∧ Below w.heap.size w w' := by
  have hm : cap ≤ 9223372036854775807 := by simpa [maxLen] using hcap
  have hlc := hc.1
  by_cases hl : 1048576 < len
  · clear hcap hc hT
    go_enter Tryd.func8, Tryd.ntmps8
    go_wp2_with fail
    go_ret
    exact ⟨rfl, Below.refl _ _⟩
  · have hc1 := Lib.hid hc
    have hcap1 := Lib.hid hcap
    have hT := Lib.hid hT
    clear hc hcap
    go_enter Tryd.func8, Tryd.ntmps8
    go_wp2_with fail
    refine (ddl_any a len cap w hc1.out hcap1.out).mono ?_
    rintro e w0 ⟨u, C, rfl, hI, hCl, D1'⟩
    have D := Lib.hid D1'
    have hI := Lib.hid hI
    clear hc1 hcap1 D1'
    go_wp2_with fail
    refine (dlat_any u C _ hI.out (hT.out.up D.out (Nat.le_refl _))).mono ?_
    rintro e w1 ⟨gb, x, hgb, rfl, hO, hb⟩
    have hO := Lib.hid hO
    replace hI := Lib.hid (hI.out.up hb (Nat.le_refl _))
    replace D := Lib.hid (bstep D.out hb)
    clear hb
    go_wp2_with fail
    refine (slat_any u C _ hI.out).mono ?_
    rintro e w2 ⟨g2, y, hg2, rfl, hP, hb⟩
    have hP := Lib.hid hP
    replace hI := Lib.hid (hI.out.up hb (Nat.le_refl _))
    replace hO := Lib.hid (hO.out.up hb hO.out.lt)
    replace D := Lib.hid (bstep D.out hb)
    clear hb
    have hsome : Hid (srtB C = true → ∀ k, k < C.length → ∃ i, i < (latR C).length ∧ ((latR C).getD i nop).1 = (C.getD k nop).1) := Lib.hid fun h k hk => lat_some h hk
    have htw : Hid (srtB C = true → latR (latR C) = latR C) := Lib.hid lat_twice
    have hSl : (latR C).length ≤ 12 := latR_len C
    have s1 := fun w h => sval_any u C w h
    have sd := fun v w h hT => dlat_any v (latR C) w h hT
    generalize latR C = S at hO hP hsome hSl htw sd
    go_wp2_with fail
    refine (same_any x y S _ hO.out.read hP.out.read).mono ?_
    rintro e w3 ⟨rfl, hb⟩
    replace hI := Lib.hid (hI.out.up hb (Nat.le_refl _))
    replace hO := Lib.hid (hO.out.up hb hO.out.lt)
    replace hP := Lib.hid (hP.out.up hb hP.out.lt)
    replace D := Lib.hid (bstep D.out hb)
    clear hb
    generalize srtB C = q at hsome htw s1
    cases q
    · clear hsome htw sd
      go_wp2_with fail
      refine (s1 _ hI.out).mono ?_
      rintro e w4 ⟨rfl, hb⟩
      replace hO := Lib.hid (hO.out.up hb hO.out.lt)
      replace hP := Lib.hid (hP.out.up hb hP.out.lt)
      replace D := Lib.hid (bstep D.out hb)
      clear hb hI s1
      go_wp2_with fail
      refine (same_any x y S _ hO.out.read hP.out.read).mono ?_
      rintro e w5 ⟨rfl, hb⟩
      replace D := Lib.hid (bstep D.out hb)
      clear hb hO hP
      go_wp2_with fail
      go_ret
      exact ⟨rfl, D.out⟩
    · have hsm := Lib.hid (hsome.out rfl)
      rw [htw.out rfl] at sd
      clear htw hP hsome
      go_wp2_with fail
      refine (s1 _ hI.out).mono ?_
      rintro e ws ⟨rfl, hb⟩
      replace hI := Lib.hid (hI.out.up hb (Nat.le_refl _))
      replace hO := Lib.hid (hO.out.up hb hO.out.lt)
      replace D := Lib.hid (bstep D.out hb)
      clear hb s1
      obtain ⟨cS, hx, hcS⟩ := hO.out.shape
      obtain ⟨n, hn⟩ : ∃ n, Hid (S.length = n) := ⟨_, Lib.hid rfl⟩
      rw [hn.out] at hx hcS hSl
      subst hx
      obtain ⟨ad, cu, hu, hcu, _, hrd⟩ := hI.out
      obtain ⟨m, hm2⟩ : ∃ m, Hid (C.length = m) := ⟨_, Lib.hid rfl⟩
      rw [hm2.out] at hu hcu hCl
      subst hu
      have hrd := Lib.hid hrd
      have hgs := hO.out.lt
      have sd := Lib.hid sd
      clear hI
      go_wp2_with fail
      go_loopw [6] (fun i wr => ∃ k : Nat, k ≤ m ∧ i = .int .i64 k ∧ Hid (Below ws.heap.size ws wr)) (fun i _ => m - (intOf i).toNat)
      case atStart => exact ⟨0, Nat.zero_le _, rfl, Lib.hid (Below.refl _ _)⟩
      case round =>
        obtain ⟨k, hk, rfl, hnx⟩ := hrel
        by_cases hlt : k < m
        · rcases hrd.out with h | ⟨b, off, hab, hbs, hC⟩
          · have := hm2.out; omega
          · subst hab
            obtain ⟨h0, h1⟩ := hC k (by rw [hm2.out]; exact hlt)
            have hsk := hsm.out k (by rw [hm2.out]; exact hlt)
            generalize C.getD k nop = c at h0 h1 hsk
            obtain ⟨p, r⟩ := c
            dsimp only at h0 h1 hsk
            have hsk := Lib.hid hsk
            have h0 := Lib.hid h0
            clear h1 hC hrd sd
            go_wp2_with fail
            have nrm : decide ((k : Int) < (m : Int)) = true := decide_eq_true (by omega)
            try simp only [nrm]
            clear nrm
            go_loopw [7, 8] (fun s i wr2 => ∃ k2 : Nat, k2 ≤ n ∧ i = .int .i64 k2 ∧ ∃ q : Bool, s = .bool q ∧ Hid (q = true ↔ ∃ i, i < k2 ∧ (S.getD i nop).1 = p) ∧ Hid (Below ws.heap.size ws wr2)) (fun _ i _ => n - (intOf i).toNat)
            case atStart => exact ⟨0, Nat.zero_le _, rfl, false, rfl, Lib.hid ⟨(fun h => absurd h (by decide)), (fun ⟨i, h, _⟩ => absurd h (Nat.not_lt_zero _))⟩, hnx⟩
            case round =>
              obtain ⟨k2, hk2, rfl, q, rfl, hq, hnx2⟩ := hrel
              by_cases hlt2 : k2 < n
              · obtain ⟨c0, _⟩ := (hO.out.up hnx2.out hgs).cell k2 (by rw [hn.out]; exact hlt2)
                have q0 := (hnx2.out.cell (p := ⟨b, off + k * 2, none⟩) hbs).trans h0.out
                have hx := any_next (P := fun i => (S.getD i nop).1 = p) hq.out
                generalize (S.getD k2 nop).1 = x at c0 hx
                have hx1 := fun d hd => Lib.hid (hx d hd)
                cases q
                · have hq2 := hx1 (x == p) (by simp)
                  rw [Bool.false_or] at hq2
                  clear hx hx1 hq
                  go_upto_region 15 with fail
                  refine wp_region_held_drew (S := fun w' => w'.cell? ⟨gb, k2 * 2, none⟩ = some (.int .i64 x) ∧ w'.cell? ⟨b, off + k * 2, none⟩ = some (.int .i64 p) ∧ Below wr.heap.size wr w') (by kernel_rfl) ⟨c0, q0, Below.drew (Below.refl _ _)⟩ (fun hHeld => ?_)
                  refine wpAnyH_take (i := 0) (oi := ⟨some 42, _, _, _, _, _⟩) (v := ?_) rfl (by kernel_rfl) (by kernel_rfl) (by kernel_rfl) (fun _ _ _ h => h) (Or.inl ⟨by rfl, ?_⟩) (by assumption) ?_
                  rotate_left 1
                  · intro w hSw; (try dsimp only at hSw); go_simp; try (with_reducible rfl)
                  try simp only [Act.put, List.setIfInBounds_toArray, List.set_cons_zero, List.set_cons_succ]
                  refine wpAnyH_take (i := 1) (oi := ⟨some 43, _, _, _, _, _⟩) (v := ?_) rfl (by kernel_rfl) (by kernel_rfl) (by kernel_rfl) (fun _ _ _ h => h) (Or.inl ⟨by rfl, ?_⟩) (by assumption) ?_
                  rotate_left 1
                  · intro w hSw; (try dsimp only at hSw); go_simp; try (with_reducible rfl)
                  try simp only [Act.put, List.setIfInBounds_toArray, List.set_cons_zero, List.set_cons_succ]
                  refine wpAnyH_take (i := 2) (oi := ⟨some 44, _, _, _, _, _⟩) (v := ?_) rfl (by kernel_rfl) (by kernel_rfl) (by kernel_rfl) (fun _ _ _ h => h) (Or.inl ⟨by rfl, ?_⟩) (by assumption) ?_
                  rotate_left 1
                  · intro w hSw; (try dsimp only at hSw); go_simp; try (with_reducible rfl)
                  try simp only [Act.put, List.setIfInBounds_toArray, List.set_cons_zero, List.set_cons_succ]
                  refine wpAnyH_take (i := 3) (oi := ⟨some 45, _, _, _, _, _⟩) (v := ?_) rfl (by kernel_rfl) (by kernel_rfl) (by kernel_rfl) (fun _ _ _ h => h) (Or.inl ⟨by rfl, ?_⟩) (by assumption) ?_
                  rotate_left 1
                  · intro w hSw; (try dsimp only at hSw); go_simp; try (with_reducible rfl)
                  try simp only [Act.put, List.setIfInBounds_toArray, List.set_cons_zero, List.set_cons_succ]
                  refine wpAnyH_take (i := 4) (oi := ⟨some 46, _, _, _, _, _⟩) (v := ?_) rfl (by kernel_rfl) (by kernel_rfl) (by kernel_rfl) (fun _ _ _ h => h) (Or.inl ⟨by rfl, ?_⟩) (by assumption) ?_
                  rotate_left 1
                  · intro w hSw; (try dsimp only at hSw); go_simp; try (with_reducible rfl)
                  try simp only [Act.put, List.setIfInBounds_toArray, List.set_cons_zero, List.set_cons_succ]
                  refine wpAnyH_take (i := 5) (oi := ⟨some 47, _, _, _, _, _⟩) (v := ?_) rfl (by kernel_rfl) (by kernel_rfl) (by kernel_rfl) (fun _ _ _ h => h) (Or.inl ⟨by rfl, ?_⟩) (by assumption) ?_
                  rotate_left 1
                  · intro w hSw; (try dsimp only at hSw); go_simp; try (with_reducible rfl)
                  try simp only [Act.put, List.setIfInBounds_toArray, List.set_cons_zero, List.set_cons_succ]
                  refine wpAnyH_take (i := 6) (oi := ⟨some 48, _, _, _, _, _⟩) (v := ?_) rfl (by kernel_rfl) (by kernel_rfl) (by kernel_rfl) (fun _ _ _ h => h) (Or.inl ⟨by rfl, ?_⟩) (by assumption) ?_
                  rotate_left 1
                  · intro w hSw; (try dsimp only at hSw); go_simp; try (with_reducible rfl)
                  try simp only [Act.put, List.setIfInBounds_toArray, List.set_cons_zero, List.set_cons_succ]
                  refine wpAnyH_take (i := 7) (oi := ⟨some 49, _, _, _, _, _⟩) (v := ?_) rfl (by kernel_rfl) (by kernel_rfl) (by kernel_rfl) (fun _ _ _ h => h) (Or.inl ⟨by rfl, ?_⟩) (by assumption) ?_
                  rotate_left 1
                  · intro w hSw; (try dsimp only at hSw); go_simp; try (with_reducible rfl)
                  try simp only [Act.put, List.setIfInBounds_toArray, List.set_cons_zero, List.set_cons_succ]
                  refine wpAnyH_take (i := 8) (oi := ⟨some 50, _, _, _, _, _⟩) (v := ?_) rfl (by kernel_rfl) (by kernel_rfl) (by kernel_rfl) (fun _ _ _ h => h) (Or.inl ⟨by rfl, ?_⟩) (by assumption) ?_
                  rotate_left 1
                  · intro w hSw; (try dsimp only at hSw); go_simp; try (with_reducible rfl)
                  try simp only [Act.put, List.setIfInBounds_toArray, List.set_cons_zero, List.set_cons_succ]
                  refine wpAnyH_take (i := 9) (oi := ⟨some 51, _, _, _, _, _⟩) (v := ?_) rfl (by kernel_rfl) (by kernel_rfl) (by kernel_rfl) (fun _ _ _ h => h) (Or.inl ⟨by rfl, ?_⟩) (by assumption) ?_
                  rotate_left 1
                  · intro w hSw; (try dsimp only at hSw); go_simp; try (with_reducible rfl)
                  try simp only [Act.put, List.setIfInBounds_toArray, List.set_cons_zero, List.set_cons_succ]
                  refine wpAnyH_take (i := 10) (oi := ⟨some 52, _, _, _, _, _⟩) (v := ?_) rfl (by kernel_rfl) (by kernel_rfl) (by kernel_rfl) (fun _ _ _ h => h) (Or.inl ⟨by rfl, ?_⟩) (by assumption) ?_
                  rotate_left 1
                  · intro w hSw; (try dsimp only at hSw); go_simp; try (with_reducible rfl)
                  try simp only [Act.put, List.setIfInBounds_toArray, List.set_cons_zero, List.set_cons_succ]
                  refine wpAnyH_take (i := 11) (oi := ⟨some 53, _, _, _, _, _⟩) (v := ?_) rfl (by kernel_rfl) (by kernel_rfl) (by kernel_rfl) (fun _ _ _ h => h) (Or.inl ⟨by rfl, ?_⟩) (by assumption) ?_
                  rotate_left 1
                  · intro w hSw; (try dsimp only at hSw); go_simp; try (with_reducible rfl)
                  try simp only [Act.put, List.setIfInBounds_toArray, List.set_cons_zero, List.set_cons_succ]
                  refine wpAnyH_take (i := 12) (oi := ⟨some 54, _, _, _, _, _⟩) (v := ?_) rfl (by kernel_rfl) (by kernel_rfl) (by kernel_rfl) (fun _ _ _ h => h) (Or.inl ⟨by rfl, ?_⟩) (by assumption) ?_
                  rotate_left 1
                  · intro w hSw; (try dsimp only at hSw); go_simp; try (with_reducible rfl)
                  try simp only [Act.put, List.setIfInBounds_toArray, List.set_cons_zero, List.set_cons_succ]
                  refine wpAnyH_take (i := 13) (oi := ⟨some 55, _, _, _, _, _⟩) (v := ?_) rfl (by kernel_rfl) (by kernel_rfl) (by kernel_rfl) (fun _ _ _ h => h) (Or.inl ⟨by rfl, ?_⟩) (by assumption) ?_
                  rotate_left 1
                  · intro w hSw; (try dsimp only at hSw); go_simp; try (with_reducible rfl)
                  try simp only [Act.put, List.setIfInBounds_toArray, List.set_cons_zero, List.set_cons_succ]
                  refine wpAnyH_take (i := 14) (oi := ⟨some 7, _, _, _, _, _⟩) (v := ?_) rfl (by kernel_rfl) (by kernel_rfl) (by kernel_rfl) (fun _ _ _ h => h) (Or.inl ⟨by rfl, ?_⟩) (by assumption) ?_
                  rotate_left 1
                  · intro w hSw; (try dsimp only at hSw); go_simp; try (with_reducible rfl)
                  try simp only [Act.put, List.setIfInBounds_toArray, List.set_cons_zero, List.set_cons_succ]
                  refine wpAnyH_done (by kernel_rfl) ?_ _
                  try simp only [Act.put, List.setIfInBounds_toArray, List.set_cons_zero, List.set_cons_succ]
                  have D7 := Lib.hid (bstep hnx2.out hHeld.2.2)
                  clear hHeld c0 q0
                  go_wp2_with fail
                  go_roundw
                  case rel => exact ⟨k2 + 1, by omega, by go_num, x == p, rfl, hq2, D7⟩
                  case measure => simp [intOf]; omega
                · have hq2 := hx1 (x == p) (by simp)
                  rw [Bool.true_or] at hq2
                  clear hx hx1 hq
                  go_upto_region 15 with fail
                  refine wp_region_held_drew (S := fun w' => w'.cell? ⟨gb, k2 * 2, none⟩ = some (.int .i64 x) ∧ w'.cell? ⟨b, off + k * 2, none⟩ = some (.int .i64 p) ∧ Below wr.heap.size wr w') (by kernel_rfl) ⟨c0, q0, Below.drew (Below.refl _ _)⟩ (fun hHeld => ?_)
                  refine wpAnyH_take (i := 0) (oi := ⟨some 42, _, _, _, _, _⟩) (v := ?_) rfl (by kernel_rfl) (by kernel_rfl) (by kernel_rfl) (fun _ _ _ h => h) (Or.inl ⟨by rfl, ?_⟩) (by assumption) ?_
                  rotate_left 1
                  · intro w hSw; (try dsimp only at hSw); go_simp; try (with_reducible rfl)
                  try simp only [Act.put, List.setIfInBounds_toArray, List.set_cons_zero, List.set_cons_succ]
                  refine wpAnyH_take (i := 1) (oi := ⟨some 43, _, _, _, _, _⟩) (v := ?_) rfl (by kernel_rfl) (by kernel_rfl) (by kernel_rfl) (fun _ _ _ h => h) (Or.inl ⟨by rfl, ?_⟩) (by assumption) ?_
                  rotate_left 1
                  · intro w hSw; (try dsimp only at hSw); go_simp; try (with_reducible rfl)
                  try simp only [Act.put, List.setIfInBounds_toArray, List.set_cons_zero, List.set_cons_succ]
                  refine wpAnyH_take (i := 2) (oi := ⟨some 44, _, _, _, _, _⟩) (v := undef) rfl (by kernel_rfl) (by kernel_rfl) (by kernel_rfl) (fun _ _ _ h => h) (Or.inr ⟨by rfl, rfl⟩) (by assumption) ?_
                  try simp only [Act.put, List.setIfInBounds_toArray, List.set_cons_zero, List.set_cons_succ]
                  refine wpAnyH_take (i := 3) (oi := ⟨some 45, _, _, _, _, _⟩) (v := undef) rfl (by kernel_rfl) (by kernel_rfl) (by kernel_rfl) (fun _ _ _ h => h) (Or.inr ⟨by rfl, rfl⟩) (by assumption) ?_
                  try simp only [Act.put, List.setIfInBounds_toArray, List.set_cons_zero, List.set_cons_succ]
                  refine wpAnyH_take (i := 4) (oi := ⟨some 46, _, _, _, _, _⟩) (v := undef) rfl (by kernel_rfl) (by kernel_rfl) (by kernel_rfl) (fun _ _ _ h => h) (Or.inr ⟨by rfl, rfl⟩) (by assumption) ?_
                  try simp only [Act.put, List.setIfInBounds_toArray, List.set_cons_zero, List.set_cons_succ]
                  refine wpAnyH_take (i := 5) (oi := ⟨some 47, _, _, _, _, _⟩) (v := undef) rfl (by kernel_rfl) (by kernel_rfl) (by kernel_rfl) (fun _ _ _ h => h) (Or.inr ⟨by rfl, rfl⟩) (by assumption) ?_
                  try simp only [Act.put, List.setIfInBounds_toArray, List.set_cons_zero, List.set_cons_succ]
                  refine wpAnyH_take (i := 6) (oi := ⟨some 48, _, _, _, _, _⟩) (v := undef) rfl (by kernel_rfl) (by kernel_rfl) (by kernel_rfl) (fun _ _ _ h => h) (Or.inr ⟨by rfl, rfl⟩) (by assumption) ?_
                  try simp only [Act.put, List.setIfInBounds_toArray, List.set_cons_zero, List.set_cons_succ]
                  refine wpAnyH_take (i := 7) (oi := ⟨some 49, _, _, _, _, _⟩) (v := undef) rfl (by kernel_rfl) (by kernel_rfl) (by kernel_rfl) (fun _ _ _ h => h) (Or.inr ⟨by rfl, rfl⟩) (by assumption) ?_
                  try simp only [Act.put, List.setIfInBounds_toArray, List.set_cons_zero, List.set_cons_succ]
                  refine wpAnyH_take (i := 8) (oi := ⟨some 50, _, _, _, _, _⟩) (v := undef) rfl (by kernel_rfl) (by kernel_rfl) (by kernel_rfl) (fun _ _ _ h => h) (Or.inr ⟨by rfl, rfl⟩) (by assumption) ?_
                  try simp only [Act.put, List.setIfInBounds_toArray, List.set_cons_zero, List.set_cons_succ]
                  refine wpAnyH_take (i := 9) (oi := ⟨some 51, _, _, _, _, _⟩) (v := undef) rfl (by kernel_rfl) (by kernel_rfl) (by kernel_rfl) (fun _ _ _ h => h) (Or.inr ⟨by rfl, rfl⟩) (by assumption) ?_
                  try simp only [Act.put, List.setIfInBounds_toArray, List.set_cons_zero, List.set_cons_succ]
                  refine wpAnyH_take (i := 10) (oi := ⟨some 52, _, _, _, _, _⟩) (v := undef) rfl (by kernel_rfl) (by kernel_rfl) (by kernel_rfl) (fun _ _ _ h => h) (Or.inr ⟨by rfl, rfl⟩) (by assumption) ?_
                  try simp only [Act.put, List.setIfInBounds_toArray, List.set_cons_zero, List.set_cons_succ]
                  refine wpAnyH_take (i := 11) (oi := ⟨some 53, _, _, _, _, _⟩) (v := undef) rfl (by kernel_rfl) (by kernel_rfl) (by kernel_rfl) (fun _ _ _ h => h) (Or.inr ⟨by rfl, rfl⟩) (by assumption) ?_
                  try simp only [Act.put, List.setIfInBounds_toArray, List.set_cons_zero, List.set_cons_succ]
                  refine wpAnyH_take (i := 12) (oi := ⟨some 54, _, _, _, _, _⟩) (v := undef) rfl (by kernel_rfl) (by kernel_rfl) (by kernel_rfl) (fun _ _ _ h => h) (Or.inr ⟨by rfl, rfl⟩) (by assumption) ?_
                  try simp only [Act.put, List.setIfInBounds_toArray, List.set_cons_zero, List.set_cons_succ]
                  refine wpAnyH_take (i := 13) (oi := ⟨some 55, _, _, _, _, _⟩) (v := ?_) rfl (by kernel_rfl) (by kernel_rfl) (by kernel_rfl) (fun _ _ _ h => h) (Or.inl ⟨by rfl, ?_⟩) (by assumption) ?_
                  rotate_left 1
                  · intro w hSw; (try dsimp only at hSw); go_simp; try (with_reducible rfl)
                  try simp only [Act.put, List.setIfInBounds_toArray, List.set_cons_zero, List.set_cons_succ]
                  refine wpAnyH_take (i := 14) (oi := ⟨some 7, _, _, _, _, _⟩) (v := ?_) rfl (by kernel_rfl) (by kernel_rfl) (by kernel_rfl) (fun _ _ _ h => h) (Or.inl ⟨by rfl, ?_⟩) (by assumption) ?_
                  rotate_left 1
                  · intro w hSw; (try dsimp only at hSw); go_simp; try (with_reducible rfl)
                  try simp only [Act.put, List.setIfInBounds_toArray, List.set_cons_zero, List.set_cons_succ]
                  refine wpAnyH_done (by kernel_rfl) ?_ _
                  try simp only [Act.put, List.setIfInBounds_toArray, List.set_cons_zero, List.set_cons_succ]
                  have D7 := Lib.hid (bstep hnx2.out hHeld.2.2)
                  clear hHeld c0 q0
                  go_wp2_with fail
                  go_roundw
                  case rel => exact ⟨k2 + 1, by omega, by go_num, true, rfl, hq2, D7⟩
                  case measure => simp [intOf]; omega
              · obtain rfl : k2 = n := by omega
                have hqt : q = true := hq.out.2 (by rw [← hn.out]; exact hsk.out)
                subst hqt
                go_wp2_with fail
                go_roundw
                case rel => exact ⟨k + 1, by omega, by go_num, hnx2⟩
                case measure => simp [intOf]; omega
        · obtain rfl : k = m := by omega
          replace hO := Lib.hid (hO.out.up hnx.out hgs)
          replace D := Lib.hid (bstep D.out hnx.out)
          clear hrd
          go_wp2_with fail
          refine (sd.out _ _ hO.out.read (hT.out.up D.out (Nat.le_refl _))).mono ?_
          rintro e w8 ⟨g8, v8, hg8, rfl, hQ, hb⟩
          have hQ := Lib.hid hQ
          replace hO := Lib.hid (hO.out.up hb hO.out.lt)
          replace D := Lib.hid (bstep D.out hb)
          clear hb sd
          go_wp2_with fail
          refine (same_any v8 _ S _ hQ.out.read hO.out.read).mono ?_
          rintro e w9 ⟨rfl, hb⟩
          replace D := Lib.hid (bstep D.out hb)
          clear hb hQ hO
          go_wp2_with fail
          go_ret
          exact ⟨rfl, D.out⟩
end Go.Proofs.YtigaepbhbfpijaaDoor
