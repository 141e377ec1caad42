/- Texts laid together. -/
import Derived.Test.YtlipmjbeiiifkaaDoorC05
import Derived.Test.YtlipmjbeiiifkaaDoorC19
import Derived.Test.YtlipmjbeiiifkaaDoorC12
import Derived.Test.YtlipmjbeiiifkaaDoorC07
import Derived.Deep.RegionWith
import Derived.Deep.DeepCutAuto
import Derived.Maps.AppendAt
/- The model's l11Attrs and LogAttrs. -/
namespace Go.Proofs.YtlipmjbeiiifkaaDoor
open Go.RowKit
set_option linter.unusedVariables false

/-- Where l11Attrs is: the boxes of its arguments, the ids so far. -/
structure PtA (w wr : World) (x y ck ckey cv : Int) (v : Value) (L : List Pid) : Prop where
  row : wr.ownsRow (w.heap.size + 2) 29 2 v L.length (flatP L)
  nn : v ≠ .slice none 0 0
  ia : wr.heap[w.heap.size]? = some (.cells #[.int .i64 x, .int .i64 y] 29 (0, 0))
  ic : wr.heap[w.heap.size + 1]? = some (.cells #[.int .i64 ck, .int .i64 ckey, .int .i64 cv] 25 (0, 0))
  kp : Below w.heap.size w wr
theorem grown_below2 {w w' : World} {B : Nat} {v : Value} {O : List Pid} {o : Obj} (h : Row w B v O) (hg : (w.alloc o).grownBy w' (Value.ownBlock v)) (hB : B ≤ w.heap.size) : Below B w w' := by
  have h1 : Row (w.alloc o) B v O := h.up ((Below.refl _ _).alloc (Nat.le_refl _) _)
  exact ((Below.refl B w).alloc hB o).trans (grown_below h1 hg (by simp; omega))
theorem row_wide {w : World} {B B' : Nat} {v : Value} {O : List Pid} (h : Row w B v O) (hB : B' ≤ B) : Row w B' v O := by
  refine ⟨⟨h.1.1, ?_⟩, h.2⟩
  rcases h.1.2 with hn | ⟨g, cap, cur, rfl, hb, rest⟩
  · exact .inl hn
  · exact .inr ⟨g, cap, cur, rfl, Nat.le_trans hB hb, rest⟩
section
variable {w wr w' : World} {x y ck ckey cv : Int} {v : Value} {L : List Pid}
theorem PtA.sz (h : PtA w wr x y ck ckey cv v L) : w.heap.size + 2 ≤ wr.heap.size := lt_of_heap h.ic
theorem PtA.up (h : PtA w wr x y ck ckey cv v L) (hb : Below wr.heap.size wr w') : PtA w w' x y ck ckey cv v L :=
  ⟨((show Row wr _ v L from ⟨h.row, h.nn⟩).up hb).1, h.nn, (hb.block _ (lt_of_heap h.ia)).trans h.ia, (hb.block _ (lt_of_heap h.ic)).trans h.ic, bstep h.kp hb⟩
theorem PtA.next (h : PtA w wr x y ck ckey cv v L) {o : Obj} {v' : Value} {p r : Int} (hown : w'.ownsRow (w.heap.size + 2) 29 2 v' (L.length + 1) (flatP L ++ [.int .i64 p, .int .i64 r])) (hg : (wr.alloc o).grownBy w' (Value.ownBlock v)) (hn : v' ≠ .slice none 0 0) :
    ∃ L', PtA w w' x y ck ckey cv v' L' ∧ L' = L ++ [(p, r)] := by
  have hs := h.sz
  have B : Below (w.heap.size + 2) wr w' := grown_below2 ⟨h.row, h.nn⟩ hg hs
  exact ⟨_, ⟨(Row.put ⟨h.row, h.nn⟩ hown hn).1, hn, (B.block _ (by omega)).trans h.ia, (B.block _ (by omega)).trans h.ic, h.kp.trans (B.mono (by omega))⟩, rfl⟩
end

set_option maxRecDepth 100000 in
set_option maxHeartbeats 16000000 in
theorem slat11_at (b off ca : Nat) (E : List En) (U : Nat → Value) (x y ck ckey cv : Int) (w : World) (hv : logB E = true) (h : EnsAt w b off E U) :
    Calls Tryd.prog 37 #[.slice (some ⟨b, off, none⟩) E.length ca, .agg #[.int .i64 x, .int .i64 y], .agg #[.int .i64 ck, .int .i64 ckey, .int .i64 cv]] w fun e w' =>
      (∃ v, e = .returned (.tuple #[.int .i64 (topE (clsE E (x, y) ck ckey) + 1), v]) ∧ Row w' w.heap.size v (idsE (clsE E (x, y) ck ckey))) ∧ Below w.heap.size w w' := by
  obtain ⟨i0, hi, hz0, hz1, hz2⟩ := info_parts infoP
  have hm := (log_of hv).1
  have h := Lib.hid h
  have hv := Lib.hid hv
  rw [topE_cls]
  obtain ⟨n, hn⟩ : ∃ n, Hid (E.length = n) := ⟨_, Lib.hid rfl⟩
  rw [hn.out] at hm ⊢
  have P0 : Hid (PtA w (((w.alloc (.cells #[.int .i64 x, .int .i64 y] 29)).alloc (.cells #[.int .i64 ck, .int .i64 ckey, .int .i64 cv] 25)).alloc (.cells #[] 29)) x y ck ckey cv (.slice (some ⟨w.heap.size + 1 + 1, 0, none⟩) 0 0) []) := Lib.hid
    ⟨by have := (row_new ((w.alloc (.cells #[.int .i64 x, .int .i64 y] 29)).alloc (.cells #[.int .i64 ck, .int .i64 ckey, .int .i64 cv] 25)) (w.heap.size + 2) (by simp)).1; simpa using this, by simp, (Below.heap_alloc _ _ _ (by simp; omega)).trans ((Below.heap_alloc _ _ _ (by simp)).trans (heap_alloc_new w _)), (Below.heap_alloc _ _ _ (by simp)).trans (heap_alloc_at _ _ _ (by simp)), (((Below.refl _ _).alloc (Nat.le_refl _) _).alloc (by simp) _).alloc (by simp; omega) _⟩
  go_enter Tryd.func37, Tryd.ntmps37
  go_wp2_with fail
  go_loopw [8, 9, 10] (fun q d i wr => ∃ (k : Nat) (gt : Int) (LL : List Pid), k ≤ n ∧ i = .int .i64 k ∧ q = .int .i64 (gt + 1) ∧ 0 ≤ gt ∧ gt ≤ 99 ∧ Hid (TopP E (fun j => j < k) (clsF (x, y) ck ckey) (fun z => z.seq) gt) ∧ Hid (idsE (clsE (E.take k) (x, y) ck ckey) = LL) ∧ Hid (PtA w wr x y ck ckey cv d LL)) (fun _ _ i _ => n - (intOf i).toNat)
  case atStart => exact ⟨0, 0, [], Nat.zero_le _, rfl, rfl, by omega, by omega, Lib.hid (TopP.start E _ (fun k hk => absurd hk (Nat.not_lt_zero _)) _ _), Lib.hid rfl, P0⟩
  case round =>
    clear P0
    obtain ⟨k, gt, LL, hk, rfl, rfl, hg0, hg1, hT, hM, P⟩ := hrel
    have hLl : LL.length ≤ 12 := by
      rw [← hM.out, idsE_len]
      exact Nat.le_trans (List.length_filter_le _ _) (by rw [List.length_take]; have := hn.out; omega)
    by_cases hlt : k < n
    · have hkE : k < E.length := by rw [hn.out]; exact hlt
      have hrk := log_rank hv.out hkE
      obtain ⟨z, hz⟩ : ∃ z, Hid (E.getD k en0 = z) := ⟨_, Lib.hid rfl⟩
      rw [hz.out] at hrk
      obtain ⟨ua, un, uc, hU⟩ : ∃ ua un uc, U k = .slice ua un uc := by obtain ⟨a, c, e, _⟩ := (h.out.at_ k hkE).ids; exact ⟨a, _, c, e⟩
      have xat : ∀ W, Below w.heap.size w W → EnAt W b (off + k * 9) z (.slice ua un uc) := fun W hb => by
        have := (h.out.up hb (Nat.le_refl _)).at_ k hkE
        rw [hz.out, hU] at this; exact this
      have hbl : ∀ W, Below w.heap.size w W → b < W.heap.size := fun W hb => (h.out.up hb (Nat.le_refl _)).lt
      clear h hU
      have kc := fun W => kclash_any z.k z.key z.v ck ckey cv W
      by_cases hne : z.id = (x, y)
      · have hno : ¬ (¬ z.id = (x, y) ∧ kcB z.k z.key ck ckey = true) := fun h => h.1 hne
        obtain ⟨a0, a1, _, _⟩ := blk2 P.out.ia
        obtain ⟨b0, b1, b2, _, _, _⟩ := blk3 P.out.ic
        have hil := lt_of_heap P.out.ia
        have hcl := lt_of_heap P.out.ic
        obtain ⟨q0, q1, q2, q3, q4, q5, q6, q7, q8, _⟩ := xat _ P.out.kp
        have qb := hbl _ P.out.kp
        rw [hne] at q0 q1
        dsimp only at q0 q1
        go_wp2_with fail
        go_quiet (fail)
        replace P := Lib.hid (P.out.up (w' := wr.drewN nq) (bdrewN (Below.refl _ _) _))
        generalize wr.drewN nq = wy at P ⊢
        clear a0 a1 b0 b1 b2 hil hcl q0 q1 q2 q3 q4 q5 q6 q7 q8 qb
        have hM2 := Lib.hid (show idsE (clsE (E.take (k + 1)) (x, y) ck ckey) = LL from by rw [clsE_next hkE, if_neg (by rw [hz.out]; exact hno), List.append_nil]; exact hM.out)
        have T := Lib.hid (hT.out.miss (k := k) up_lt2 (by rw [hz.out]; exact clsF_no hno))
        go_wp2_with fail
        refine ⟨⟨k + 1, gt, LL, by omega, by go_num, rfl, hg0, hg1, T, hM2, P⟩, ?_⟩
        simp [intOf]; omega
      · go_upto_region 6 with fail
        go_cut [33] from 18 to 32 (fun s wx => s = .bool (kcB z.k z.key ck ckey) ∧ Hid (PtA w wx x y ck ckey cv u9 LL))
        case first =>
          obtain ⟨a0, a1, _, _⟩ := blk2 P.out.ia
          obtain ⟨b0, b1, b2, _, _, _⟩ := blk3 P.out.ic
          have hil := lt_of_heap P.out.ia
          have hcl := lt_of_heap P.out.ic
          obtain ⟨q0, q1, q2, q3, q4, q5, q6, q7, q8, _⟩ := xat _ P.out.kp
          have qb := hbl _ P.out.kp
          rcases pid_ne2 hne with hne1 | ⟨hne0, hne1⟩
          · dsimp only at hne1
            go_wp2_with fail
            go_region_with (go_at_call 67; (with_reducible refine (kc _).mono ?_); rintro e wy ⟨rfl, B⟩; have P2 := Lib.hid (PtA.up (PtA.up P.out (Below.drew (Below.refl _ _))) B); clear B)
            all_goals
              go_wp2_with fail
              go_meet
              exact ⟨rfl, P2⟩
          · dsimp only at hne0 hne1
            rw [hne0] at q0
            go_wp2_with fail
            go_region_with (go_at_call 67; (with_reducible refine (kc _).mono ?_); rintro e wy ⟨rfl, B⟩; have P2 := Lib.hid (PtA.up (PtA.up P.out (Below.drew (Below.refl _ _))) B); clear B)
            all_goals
              go_wp2_with fail
              go_meet
              exact ⟨rfl, P2⟩
        case rest =>
          obtain ⟨rfl, P2⟩ := hcut
          clear P
          have P := P2
          clear P2
          obtain ⟨a0, a1, _, _⟩ := blk2 P.out.ia
          obtain ⟨b0, b1, b2, _, _, _⟩ := blk3 P.out.ic
          have hil := lt_of_heap P.out.ia
          have hcl := lt_of_heap P.out.ic
          obtain ⟨q0, q1, q2, q3, q4, q5, q6, q7, q8, _⟩ := xat _ P.out.kp
          have qb := hbl _ P.out.kp
          cases hc : kcB z.k z.key ck ckey with
          | false =>
            have hno : ¬ (¬ z.id = (x, y) ∧ kcB z.k z.key ck ckey = true) := fun h => by rw [hc] at h; cases h.2
            have hM2 := Lib.hid (show idsE (clsE (E.take (k + 1)) (x, y) ck ckey) = LL from by rw [clsE_next hkE, if_neg (by rw [hz.out]; exact hno), List.append_nil]; exact hM.out)
            have T := Lib.hid (hT.out.miss (k := k) up_lt2 (by rw [hz.out]; exact clsF_no hno))
            go_wp2_with fail
            refine ⟨⟨k + 1, gt, LL, by omega, by go_num, rfl, hg0, hg1, T, hM2, P⟩, ?_⟩
            simp [intOf]; omega
          | true =>
            have hs1 := hrk
            have T := Lib.hid (hT.out.hit hkE up_lt2 (by rw [hz.out]; exact clsF_yes hne hc))
            rw [hz.out] at T
            have hM2 := Lib.hid (show idsE (clsE (E.take (k + 1)) (x, y) ck ckey) = LL ++ [(z.id.1, z.id.2)] from by rw [clsE_next hkE, if_pos (by rw [hz.out]; exact ⟨hne, hc⟩), hz.out]; unfold idsE at hM ⊢; rw [List.map_append, hM.out]; rfl)
            go_upto_region 7 with fail
            go_cut [8] from 34 to 41 (fun q wx => q = .int .i64 (max gt z.seq + 1) ∧ Hid (PtA w wx x y ck ckey cv u9 LL))
            case first =>
              by_cases hle : z.seq ≤ gt
              · have hmax : max gt z.seq = gt := Int.max_eq_left hle
                go_wp2_with fail
                go_meet
                exact ⟨by rw [hmax], P⟩
              · have hmax : max gt z.seq = z.seq := Int.max_eq_right (by omega)
                go_wp2_with fail
                go_meet
                exact ⟨by rw [hmax], P⟩
            case rest =>
              obtain ⟨rfl, P2⟩ := hcut
              clear P a0 a1 b0 b1 b2 hil hcl q0 q1 q2 q3 q4 q5 q6 q7 q8 qb
              have P := P2
              clear P2
              obtain ⟨q0, q1, q2, q3, q4, q5, q6, q7, q8, _⟩ := xat _ P.out.kp
              have qb := hbl _ P.out.kp
              have h99 : 0 ≤ max gt z.seq ∧ max gt z.seq ≤ 99 := ⟨Int.le_trans hg0 (Int.le_max_left _ _), Int.max_le.2 ⟨hg1, hs1.2⟩⟩
              obtain ⟨g2, hg2⟩ : ∃ g, Hid (max gt z.seq = g) := ⟨_, Lib.hid rfl⟩
              rw [show max gt ((fun z : En => z.seq) z) = g2 from hg2.out] at T
              rw [hg2.out] at h99 ⊢
              clear hg2
              have hPr := Lib.hid P.out.row
              obtain ⟨m, hm'⟩ : ∃ m, Hid (LL.length = m) := ⟨_, Lib.hid rfl⟩
              rw [hm'.out] at hPr hLl
              have hPs := P.out.kp.size
              go_wp2_with (at_builtin; refine wpList_append_own_at _ rfl _ _ 30 rfl (w.heap.size + 2) 29 i0 (.agg #[.int .i64 0, .int .i64 0]) 2 16 Tryd.underlying30 hi hz0 hz1 hz2 rfl (by decide) _ m (flatP LL) rfl (hPr.out.alloc _) ⟨wc.heap.size, 0, none⟩ 1 1 [.int .i64 z.id.1, .int .i64 z.id.2] rfl rfl ?fc1 ?fc2 ?fc3 ?fc4 ?fc5 ?_)
              try case fc1 => exact two_cells _ _ _ _ _ (by simp)
              case fc2 => intro u hu; simp at hu; rcases hu with rfl | rfl <;> rfl
              case fc3 => unfold maxLen; omega
              case fc4 => omega
              case fc5 => have := P.out.sz; first | omega | (simp; omega)
              intro v' w' hown' hgrow hnil hat
              obtain ⟨LL', P5, hM5⟩ := P.out.next (p := z.id.1) (r := z.id.2) (by rw [hm'.out]; exact hown') hgrow (fun e => hnil e)
              clear hown' hgrow hnil hat hPr hPs P
              have P := Lib.hid P5
              go_wp2_with fail
              refine ⟨⟨k + 1, g2, LL', by omega, by go_num, by first | rfl | (congr 1; omega), by omega, by omega, T, Lib.hid (by rw [hM5]; exact hM2.out), P⟩, ?_⟩
              simp [intOf]; omega
    · obtain rfl : k = n := by omega
      have e := Lib.hid (hT.out.done fun j hj => by rw [← hn.out]; exact hj)
      have hM2 := hM.out
      rw [List.take_of_length_le (by rw [hn.out]; exact Nat.le_refl _)] at hM2
      have R := Lib.hid (row_wide (B' := w.heap.size) ⟨P.out.row, P.out.nn⟩ (by omega))
      rw [← hM2] at R
      have B := Lib.hid P.out.kp
      clear P hM hT hM2 h
      go_wp2_with fail
      go_ret2
      exact ⟨⟨_, by rw [← e.out]; rfl, R.out⟩, B.out⟩
end Go.Proofs.YtlipmjbeiiifkaaDoor
