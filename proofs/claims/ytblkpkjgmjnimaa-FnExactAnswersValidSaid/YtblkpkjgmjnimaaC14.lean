/- Texts laid together. -/
import Derived.Test.YtblkpkjgmjnimaaC10
import Derived.Test.YtblkpkjgmjnimaaC12
import Derived.Test.YtblkpkjgmjnimaaC15
import Derived.Test.YtblkpkjgmjnimaaC17
import Derived.Deep.DeepCutAuto
import Derived.Deep.RegionWith
import Derived.Maps.AppendAt
/- The program's Answer.valid. -/
namespace Go.Proofs.Ytblkpkjgmjnimaa
open Go.RowKit
set_option linter.unusedVariables false

theorem pid_neA {a b : Pid} (h : ¬ a = b) : (¬ a.1 = b.1) ∨ (a.1 = b.1 ∧ ¬ a.2 = b.2) := by
  by_cases h1 : a.1 = b.1
  · exact .inr ⟨h1, fun h2 => h (Prod.ext h1 h2)⟩
  · exact .inl h1
theorem elev_all {w : World} {b : Nat} {x0 x1 x2 x3 x4 x5 x6 x7 x8 x9 x10 : Value} {t : TypeId} (h : w.heap[b]? = some (.cells #[x0, x1, x2, x3, x4, x5, x6, x7, x8, x9, x10] t (0, 0))) :
    (w.cell? ⟨b, 0, none⟩ = some x0 ∧ w.cell? ⟨b, 1, none⟩ = some x1 ∧ w.cell? ⟨b, 2, none⟩ = some x2 ∧ w.cell? ⟨b, 3, none⟩ = some x3 ∧ w.cell? ⟨b, 4, none⟩ = some x4 ∧ w.cell? ⟨b, 5, none⟩ = some x5 ∧ w.cell? ⟨b, 6, none⟩ = some x6 ∧ w.cell? ⟨b, 7, none⟩ = some x7 ∧ w.cell? ⟨b, 8, none⟩ = some x8 ∧ w.cell? ⟨b, 9, none⟩ = some x9 ∧ w.cell? ⟨b, 10, none⟩ = some x10) ∧ b < w.heap.size :=
  ⟨⟨by rw [cell_of_cells h]; rfl, by rw [cell_of_cells h]; rfl, by rw [cell_of_cells h]; rfl, by rw [cell_of_cells h]; rfl, by rw [cell_of_cells h]; rfl, by rw [cell_of_cells h]; rfl, by rw [cell_of_cells h]; rfl, by rw [cell_of_cells h]; rfl, by rw [cell_of_cells h]; rfl, by rw [cell_of_cells h]; rfl, by rw [cell_of_cells h]; rfl⟩, lt_of_heap h⟩

set_option maxRecDepth 100000 in
set_option maxHeartbeats 4000000 in
theorem ianv_any (x : An) (u : Value) (n : Int) (a : Pid) (w : World) (h : Ids w u x.en.deps) :
    Calls Try.prog 16 #[anv x u, .int .i64 n, .agg #[.int .i64 a.1, .int .i64 a.2]] w fun e w' => e = .returned (.bool (anB n a x)) ∧ Below w.heap.size w w' := by
  obtain ⟨ua, un, uc, rfl⟩ : ∃ ua un uc, u = .slice ua un uc := by obtain ⟨b, c, e, _⟩ := h; exact ⟨b, _, c, e⟩
  have iv := fun W (hb : Below w.heap.size w W) => ievalid_any x.en (.slice ua un uc) W (h.up hb (Nat.le_refl _))
  have iu := fun W (hb : Below w.heap.size w W) => iuns_any x.en (.slice ua un uc) W (h.up hb (Nat.le_refl _))
  have A := Lib.hid ((Below.heap_alloc _ (.cells #[.int .i64 a.1, .int .i64 a.2] 24) _ (by simp)).trans (heap_alloc_new w (.cells #[.int .i64 x.fr, .bool x.kn, .int .i64 x.en.id.1, .int .i64 x.en.id.2, .int .i64 x.en.bal, .int .i64 x.en.st, .int .i64 x.en.k, .int .i64 x.en.key, .int .i64 x.en.v, .int .i64 x.en.seq, .slice ua un uc] 48)))
  have AB := Lib.hid (heap_alloc_at (w.alloc (.cells #[.int .i64 x.fr, .bool x.kn, .int .i64 x.en.id.1, .int .i64 x.en.id.2, .int .i64 x.en.bal, .int .i64 x.en.st, .int .i64 x.en.k, .int .i64 x.en.key, .int .i64 x.en.v, .int .i64 x.en.seq, .slice ua un uc] 48)) (.cells #[.int .i64 a.1, .int .i64 a.2] 24) (w.heap.size + 1) (by simp))
  have D := Lib.hid (((Below.refl w.heap.size w).alloc (Nat.le_refl _) (.cells #[.int .i64 x.fr, .bool x.kn, .int .i64 x.en.id.1, .int .i64 x.en.id.2, .int .i64 x.en.bal, .int .i64 x.en.st, .int .i64 x.en.k, .int .i64 x.en.key, .int .i64 x.en.v, .int .i64 x.en.seq, .slice ua un uc] 48)).alloc (by simp) (.cells #[.int .i64 a.1, .int .i64 a.2] 24))
  clear h
  unfold env at iv iu
  unfold anv
  obtain ⟨R, hR⟩ : ∃ q, Hid (anB n a x = q) := ⟨_, Lib.hid rfl⟩
  rw [hR.out]
  go_enter Try.func16, Try.ntmps16
  go_upto_region 1 with fail
  generalize (w.alloc (.cells #[.int .i64 x.fr, .bool x.kn, .int .i64 x.en.id.1, .int .i64 x.en.id.2, .int .i64 x.en.bal, .int .i64 x.en.st, .int .i64 x.en.k, .int .i64 x.en.key, .int .i64 x.en.v, .int .i64 x.en.seq, .slice ua un uc] 48)).alloc (.cells #[.int .i64 a.1, .int .i64 a.2] 24) = w1 at A AB D ⊢
  obtain ⟨⟨y0, y1, y2, y3, y4, y5, y6, y7, y8, y9, y10⟩, yl⟩ := elev_all A.out
  by_cases h0 : x.fr < 0
  · obtain rfl : R = false := by rw [← hR.out]; unfold anB; rw [decide_eq_false (fun g => by omega)]; rfl
    clear hR
    go_wp2_with fail
    go_ret
    exact ⟨rfl, D.out⟩
  · by_cases h1 : n ≤ x.fr
    · obtain rfl : R = false := by rw [← hR.out]; unfold anB; rw [decide_eq_false (fun g => by omega)]; rfl
      clear hR
      go_wp2_with fail
      go_ret
      exact ⟨rfl, D.out⟩
    · have hR2 : Hid (R = if x.kn = true then enB x.en && decide (x.en.id = a) else unB x.en) := Lib.hid (by
        rw [← hR.out]; unfold anB; rw [decide_eq_true (show 0 ≤ x.fr ∧ x.fr < n by omega), Bool.true_and])
      clear hR
      obtain ⟨q, hq⟩ : ∃ q, Hid (x.kn = q) := ⟨_, Lib.hid rfl⟩
      rw [hq.out] at y1 hR2
      clear hq
      cases q
      · go_wp2_with fail
        refine (iu _ D.out).mono ?_
        rintro e w2 ⟨rfl, B⟩
        have D2 := Lib.hid (bstep D.out B)
        clear B iu iv
        have hR3 : Hid (R = unB x.en) := Lib.hid (hR2.out.trans (if_neg (by simp)))
        go_wp2_with fail
        go_ret
        exact ⟨by rw [hR3.out]; rfl, D2.out⟩
      · have hR3 : Hid (R = (enB x.en && decide (x.en.id = a))) := Lib.hid (hR2.out.trans (if_pos rfl))
        clear hR2
        go_wp2_with fail
        refine (iv _ D.out).mono ?_
        rintro e w2 ⟨rfl, B⟩
        have D2 := Lib.hid (bstep D.out B)
        have A2 := Lib.hid (bblk B yl A.out)
        have AB2 := Lib.hid (bblk B (lt_of_heap AB.out) AB.out)
        clear B iu iv y0 y1 y2 y3 y4 y5 y6 y7 y8 y9 y10 yl A AB D
        obtain ⟨p, hp⟩ : ∃ q, Hid (enB x.en = q) := ⟨_, Lib.hid rfl⟩
        rw [hp.out] at hR3 ⊢
        clear hp
        obtain ⟨⟨y0, y1, y2, y3, y4, y5, y6, y7, y8, y9, y10⟩, yl⟩ := elev_all A2.out
        obtain ⟨z0, z1, _, _⟩ := blk2 AB2.out
        have zl := lt_of_heap AB2.out
        cases p
        · obtain rfl : R = false := by rw [hR3.out]; rfl
          clear hR3
          go_wp2_with fail
          go_ret
          exact ⟨rfl, D2.out⟩
        · by_cases hid : x.en.id = a
          · obtain rfl : R = true := by rw [hR3.out, decide_eq_true hid]; rfl
            clear hR3
            rw [hid] at y2 y3
            clear hid
            go_wp2_with fail
            go_ret
            exact ⟨by first | rfl | simp, D2.out⟩
          · obtain rfl : R = false := by rw [hR3.out, decide_eq_false hid]; rfl
            clear hR3
            rcases pid_neA hid with hne | ⟨hne0, hne⟩
            · go_wp2_with fail
              go_ret
              exact ⟨by first | rfl | simp, D2.out⟩
            · go_wp2_with fail
              go_ret
              exact ⟨by first | rfl | simp, D2.out⟩
end Go.Proofs.Ytblkpkjgmjnimaa

/- The program's knownOf: the entries that answers know, with the memory that they have. -/
namespace Go.Proofs.Ytblkpkjgmjnimaa
open Go.RowKit
set_option linter.unusedVariables false

/-- What has been gathered. -/
structure KoE (w wr : World) (v : Value) (LL : EL) : Prop where
  row : wr.ownsRow w.heap.size 46 9 v LL.length (flatE LL)
  deps : ∀ x ∈ LL, Ids w x.2 x.1.deps
  kp : Below w.heap.size w wr
section
variable {w wr w' : World} {v : Value} {LL : EL}
theorem KoE.up (h : KoE w wr v LL) (hb : Below wr.heap.size wr w') : KoE w w' v LL := ⟨rowSame h.row fun k hk => hb.block k (rowT h.row hk).1.lt, h.deps, bstep h.kp hb⟩
theorem KoE.next (h : KoE w wr v LL) {o : Obj} {v' : Value} {x : En × Value} {A : List En} (hown : w'.ownsRow w.heap.size 46 9 v' (LL.length + 1) (flatE LL ++ ecell x)) (hg : (wr.alloc o).grownBy w' (Value.ownBlock v)) (hx : Ids w x.2 x.1.deps) (hA : LL.map Prod.fst = A) :
    ∃ L', KoE w w' v' L' ∧ L'.map Prod.fst = A ++ [x.1] := by
  have a := (Below.refl w.heap.size wr).alloc h.kp.size o
  refine ⟨LL ++ [x], ⟨by rw [flatE_app, List.length_append]; simpa [flatE] using hown, fun y hy => ?_, h.kp.trans (a.trans ⟨hg.os, hg.tape, hg.output, hg.size, fun k hk => hg.block k (by have := a.size; have := h.kp.size; omega) (fun e => absurd (rowT h.row e.symm).2 (by omega))⟩)⟩, by rw [List.map_append, hA]; rfl⟩
  rcases List.mem_append.1 hy with hy | hy
  · exact h.deps y hy
  · rw [List.mem_singleton] at hy; rw [hy]; exact hx
theorem KoE.ens (h : KoE w wr v LL) (hl : LL.length ≤ 2000000) : Ens wr v (LL.map Prod.fst) := by
  by_cases hn : v = .slice none 0 0
  · subst hn
    have h0 : LL.length = 0 := by
      rcases h.row.2 with ⟨_, e⟩ | ⟨g, cap, cur, e, _⟩
      · exact e
      · cases e
    obtain rfl : LL = [] := List.length_eq_zero_iff.1 h0
    exact ⟨none, 0, rfl, Nat.le_refl _, Nat.zero_le _, .inl rfl⟩
  · exact ens_row h.row hn (fun x hx => (h.deps x hx).up h.kp (Nat.le_refl _)) hl
theorem KoE.shape (h : KoE w wr v LL) : ∃ a c, v = .slice a LL.length c := by
  rcases h.row.2 with ⟨rfl, e⟩ | ⟨g, cap, cur, e, _⟩
  · rw [e]; exact ⟨_, _, rfl⟩
  · exact ⟨_, _, e⟩
end

set_option maxRecDepth 100000 in
set_option maxHeartbeats 8000000 in
theorem ikno_at (b off ca : Nat) (L : List An) (U : Nat → Value) (w : World) (hm : L.length ≤ 2000000) (h : AnsAt w b off L U) :
    Calls Try.prog 17 #[.slice (some ⟨b, off, none⟩) L.length ca] w fun e w' => (∃ v, e = .returned v ∧ Ens w' v (knownL L)) ∧ Below w.heap.size w w' := by
  obtain ⟨i0, hi, hz0, hz1, hz2⟩ := info_parts info_en
  have h := Lib.hid h
  obtain ⟨n, hn⟩ : ∃ n, Hid (L.length = n) := ⟨_, Lib.hid rfl⟩
  rw [hn.out] at hm ⊢
  have P0 : Hid (KoE w w (.slice none 0 0) []) := Lib.hid ⟨World.ownsRow_nil w _ _ _, (fun _ h => nomatch h), Below.refl _ _⟩
  go_enter Try.func17, Try.ntmps17
  go_wp2_with fail
  go_loopw [3, 8] (fun vo i wr => ∃ (k : Nat) (LL : EL), k ≤ n ∧ i = .int .i64 k ∧ Hid (LL.map Prod.fst = knownL (L.take k)) ∧ Hid (KoE w wr vo LL)) (fun _ i _ => n - (intOf i).toNat)
  case atStart => exact ⟨0, [], Nat.zero_le _, rfl, Lib.hid rfl, P0⟩
  case round =>
    clear P0
    obtain ⟨k, LL, hk, rfl, hM, P⟩ := hrel
    have hLl : LL.length ≤ n := by
      have h2 := congrArg List.length hM.out
      have h3 := known_len (L.take k)
      rw [List.length_map] at h2
      rw [List.length_take] at h3
      omega
    by_cases hlt : k < n
    · have hkL : k < L.length := by rw [hn.out]; exact hlt
      obtain ⟨x, hx⟩ : ∃ x, Hid (L.getD k an0 = x) := ⟨_, Lib.hid rfl⟩
      obtain ⟨ua, un, uc, hU⟩ : ∃ ua un uc, U k = .slice ua un uc := by obtain ⟨a, c, e, _⟩ := (h.out.at_ k hkL).ids; exact ⟨a, _, c, e⟩
      have xat : ∀ W, Below w.heap.size w W → AnAt W b (off + k * 11) x (.slice ua un uc) ∧ b < W.heap.size := fun W hb => by
        have h2 := h.out.up hb (Nat.le_refl _)
        have := h2.at_ k hkL
        rw [hx.out, hU] at this; exact ⟨this, h2.lt⟩
      have hS := Lib.hid (known_next hkL)
      rw [hx.out] at hS
      have hI := Lib.hid (xat w (Below.refl _ _)).1.ids
      clear h hU
      obtain ⟨⟨q0, q1, q2, q3, q4, q5, q6, q7, q8, q9, q10, _⟩, qb⟩ := xat _ P.out.kp
      go_upto_region 5 with fail
      have BA := (Below.refl wr.heap.size wr).alloc (Nat.le_refl _) (.cells #[.int .i64 x.fr, .bool x.kn, .int .i64 x.en.id.1, .int .i64 x.en.id.2, .int .i64 x.en.bal, .int .i64 x.en.st, .int .i64 x.en.k, .int .i64 x.en.key, .int .i64 x.en.v, .int .i64 x.en.seq, .slice ua un uc] 48)
      have A := Lib.hid (heap_alloc_new wr (.cells #[.int .i64 x.fr, .bool x.kn, .int .i64 x.en.id.1, .int .i64 x.en.id.2, .int .i64 x.en.bal, .int .i64 x.en.st, .int .i64 x.en.k, .int .i64 x.en.key, .int .i64 x.en.v, .int .i64 x.en.seq, .slice ua un uc] 48))
      replace P := Lib.hid (P.out.up BA)
      clear q0 q1 q2 q3 q4 q5 q6 q7 q8 q9 q10 qb BA
      obtain ⟨xb, hxb⟩ : ∃ c, Hid (wr.heap.size = c) := ⟨_, Lib.hid rfl⟩
      rw [hxb.out] at A ⊢
      generalize wr.alloc (.cells #[.int .i64 x.fr, .bool x.kn, .int .i64 x.en.id.1, .int .i64 x.en.id.2, .int .i64 x.en.bal, .int .i64 x.en.st, .int .i64 x.en.k, .int .i64 x.en.key, .int .i64 x.en.v, .int .i64 x.en.seq, .slice ua un uc] 48) = w1 at A P ⊢
      clear hxb
      obtain ⟨⟨y0, y1, y2, y3, y4, y5, y6, y7, y8, y9, y10⟩, yl⟩ := elev_all A.out
      obtain ⟨q, hq⟩ : ∃ q, Hid (x.kn = q) := ⟨_, Lib.hid rfl⟩
      rw [hq.out] at y1 hS
      cases q
      · have hM2 := Lib.hid (hM.out.trans (hS.out.trans (if_neg (by simp))).symm)
        clear hM hS hq
        go_wp2_with fail
        go_roundw
        case rel => exact ⟨k + 1, LL, by omega, by go_num, hM2, P⟩
        case measure => simp [intOf]; omega
      · have hPr := Lib.hid P.out.row
        obtain ⟨m, hm'⟩ : ∃ m, Hid (LL.length = m) := ⟨_, Lib.hid rfl⟩
        rw [hm'.out] at hPr hLl
        have hPs := P.out.kp.size
        clear hq
        go_upto_region 6 with fail
        go_wp2_with (at_builtin; refine wpList_append_own_at _ rfl _ _ 50 rfl w.heap.size 46 i0 (.agg #[.int .i64 0, .int .i64 0, .int .i64 0, .int .i64 0, .int .i64 0, .int .i64 0, .int .i64 0, .int .i64 0, .slice none 0 0]) 9 88 Try.underlying50 hi hz0 hz1 hz2 rfl (by decide) _ m (flatE LL) rfl (hPr.out.alloc _) ⟨w1.heap.size, 0, none⟩ 1 1 [.int .i64 x.en.id.1, .int .i64 x.en.id.2, .int .i64 x.en.bal, .int .i64 x.en.st, .int .i64 x.en.k, .int .i64 x.en.key, .int .i64 x.en.v, .int .i64 x.en.seq, .slice ua un uc] rfl rfl ?fc1 ?fc2 ?fc3 ?fc4 ?fc5 ?_)
        try (case fc1 => exact nine_srcE _ _ _ _ _ _ _ _ _ _ _ _ (by simp))
        case fc2 => exact ⟨rfl, rfl, rfl, rfl, rfl, rfl, rfl, rfl, rfl⟩
        case fc3 => unfold maxLen; omega
        case fc4 => omega
        case fc5 => first | omega | (simp; omega)
        intro v' w' hown' hgrow hnil hat
        obtain ⟨LL2, P5, hM5⟩ := P.out.next (x := (x.en, .slice ua un uc)) (by rw [hm'.out]; exact hown') hgrow hI.out hM.out
        have P := Lib.hid P5
        have hM := Lib.hid (hM5.trans (hS.out.trans (if_pos (by simp))).symm)
        clear hown' hgrow hnil hat hPr hPs hm' hS P5 hM5 y0 y1 y2 y3 y4 y5 y6 y7 y8 y9 y10 yl A
        go_wp2_with fail
        go_roundw
        case rel => exact ⟨k + 1, LL2, by omega, by go_num, hM, P⟩
        case measure => simp [intOf]; omega
    · obtain rfl : k = n := by omega
      have R := P.out.ens (by omega)
      rw [hM.out, List.take_of_length_le (by rw [hn.out]; exact Nat.le_refl _)] at R
      have R := Lib.hid R
      have B := Lib.hid P.out.kp
      obtain ⟨a5, c5, hv5⟩ := P.out.shape
      subst hv5
      clear P hM
      go_wp2_with fail
      go_ret
      exact ⟨⟨_, rfl, R.out⟩, B.out⟩
theorem ikno_any (u : Value) (L : List An) (w : World) (h : Ans w u L) :
    Calls Try.prog 17 #[u] w fun e w' => (∃ v, e = .returned v ∧ Ens w' v (knownL L)) ∧ Below w.heap.size w w' := by
  obtain ⟨a, cap, rfl, h1, h2, h3⟩ := h
  rcases h3 with h3 | ⟨b, off, U, rfl, h4⟩
  · obtain rfl : L = [] := List.length_eq_zero_iff.1 h3
    go_enter Try.func17, Try.ntmps17
    go_wp2_with fail
    refine wp_loop_rounds 1 ?_
    rw [rounds_succ]
    go_wp2_with fail
    go_ret
    exact ⟨⟨_, rfl, ⟨none, 0, rfl, Nat.le_refl _, Nat.zero_le _, .inl rfl⟩⟩, Below.refl _ _⟩
  · exact ikno_at b off cap L U w h2 h4
end Go.Proofs.Ytblkpkjgmjnimaa
