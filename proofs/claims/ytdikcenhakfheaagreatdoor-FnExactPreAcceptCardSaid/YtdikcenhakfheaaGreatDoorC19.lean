/- Texts laid together. -/
import Derived.Test.YtdikcenhakfheaaGreatDoorC05
import Derived.Test.YtdikcenhakfheaaGreatDoorC18
import Derived.Test.YtdikcenhakfheaaGreatDoorC12
import Derived.Test.YtdikcenhakfheaaGreatDoorC07
import Derived.Deep.RegionWith
import Derived.Deep.DeepCutAuto
import Derived.Maps.AppendAt
import Derived.Test.YtdikcenhakfheaaGreatDoorC03
/- The model's l11Attrs and LogAttrs. -/
namespace Go.Proofs.YtdikcenhakfheaaGreatDoor
open Go.RowKit
set_option linter.unusedVariables false

/-- Where l11Attrs is: the boxes of its arguments, the ids so far. -/
structure PtA (w wr : World) (x y ck ckey cv : Int) (v : Value) (L : List Pid) : Prop where
  row : wr.ownsRow (w.heap.size + 2) 25 2 v L.length (flatP L)
  nn : v ≠ .slice none 0 0
  ia : wr.heap[w.heap.size]? = some (.cells #[.int .i64 x, .int .i64 y] 25 (0, 0))
  ic : wr.heap[w.heap.size + 1]? = some (.cells #[.int .i64 ck, .int .i64 ckey, .int .i64 cv] 27 (0, 0))
  kp : Below w.heap.size w wr
theorem grown_below2 {w w' : World} {B : Nat} {v : Value} {O : List Pid} {o : Obj} (h : Row w B v O) (hg : (w.alloc o).grownBy w' (Value.ownBlock v)) (hB : B ≤ w.heap.size) : Below B w w' := by
  have h1 : Row (w.alloc o) B v O := h.up ((Below.refl _ _).alloc (Nat.le_refl _) _)
  exact ((Below.refl B w).alloc hB o).trans (grown_below h1 hg (by simp; omega))
theorem row_wide {w : World} {B B' : Nat} {v : Value} {O : List Pid} (h : Row w B v O) (hB : B' ≤ B) : Row w B' v O := by
  refine ⟨⟨h.1.1, ?_⟩, h.2⟩
  rcases h.1.2 with hn | ⟨g, cap, cur, rfl, hb, rest⟩
  · exact .inl hn
  · exact .inr ⟨g, cap, cur, rfl, Nat.le_trans hB hb, rest⟩
section
variable {w wr w' : World} {x y ck ckey cv : Int} {v : Value} {L : List Pid}
theorem PtA.sz (h : PtA w wr x y ck ckey cv v L) : w.heap.size + 2 ≤ wr.heap.size := lt_of_heap h.ic
theorem PtA.up (h : PtA w wr x y ck ckey cv v L) (hb : Below wr.heap.size wr w') : PtA w w' x y ck ckey cv v L :=
  ⟨((show Row wr _ v L from ⟨h.row, h.nn⟩).up hb).1, h.nn, (hb.block _ (lt_of_heap h.ia)).trans h.ia, (hb.block _ (lt_of_heap h.ic)).trans h.ic, bstep h.kp hb⟩
theorem PtA.next (h : PtA w wr x y ck ckey cv v L) {o : Obj} {v' : Value} {p r : Int} (hown : w'.ownsRow (w.heap.size + 2) 25 2 v' (L.length + 1) (flatP L ++ [.int .i64 p, .int .i64 r])) (hg : (wr.alloc o).grownBy w' (Value.ownBlock v)) (hn : v' ≠ .slice none 0 0) :
    ∃ L', PtA w w' x y ck ckey cv v' L' ∧ L' = L ++ [(p, r)] := by
  have hs := h.sz
  have B : Below (w.heap.size + 2) wr w' := grown_below2 ⟨h.row, h.nn⟩ hg hs
  exact ⟨_, ⟨(Row.put ⟨h.row, h.nn⟩ hown hn).1, hn, (B.block _ (by omega)).trans h.ia, (B.block _ (by omega)).trans h.ic, h.kp.trans (B.mono (by omega))⟩, rfl⟩
end

set_option maxRecDepth 100000 in
set_option maxHeartbeats 16000000 in
theorem slat11_at (b off ca : Nat) (E : List En) (U : Nat → Value) (x y ck ckey cv : Int) (w : World) (hv : logB E = true) (h : EnsAt w b off E U) :
    Calls Tryz.prog 43 #[.slice (some ⟨b, off, none⟩) E.length ca, .agg #[.int .i64 x, .int .i64 y], .agg #[.int .i64 ck, .int .i64 ckey, .int .i64 cv]] w fun e w' =>
      (∃ v, e = .returned (.tuple #[.int .i64 (topE (clsE E (x, y) ck ckey) + 1), v]) ∧ Row w' w.heap.size v (idsE (clsE E (x, y) ck ckey))) ∧ Below w.heap.size w w' := by
  obtain ⟨i0, hi, hz0, hz1, hz2⟩ := info_parts infoP
  have hm := (log_of hv).1
  have h := Lib.hid h
  have hv := Lib.hid hv
  rw [topE_cls]
  obtain ⟨n, hn⟩ : ∃ n, Hid (E.length = n) := ⟨_, Lib.hid rfl⟩
  rw [hn.out] at hm ⊢
  have P0 : Hid (PtA w (((w.alloc (.cells #[.int .i64 x, .int .i64 y] 25)).alloc (.cells #[.int .i64 ck, .int .i64 ckey, .int .i64 cv] 27)).alloc (.cells #[] 25)) x y ck ckey cv (.slice (some ⟨w.heap.size + 1 + 1, 0, none⟩) 0 0) []) := Lib.hid
    ⟨by have := (row_new ((w.alloc (.cells #[.int .i64 x, .int .i64 y] 25)).alloc (.cells #[.int .i64 ck, .int .i64 ckey, .int .i64 cv] 27)) (w.heap.size + 2) (by simp)).1; simpa using this, by simp, (Below.heap_alloc _ _ _ (by simp; omega)).trans ((Below.heap_alloc _ _ _ (by simp)).trans (heap_alloc_new w _)), (Below.heap_alloc _ _ _ (by simp)).trans (heap_alloc_at _ _ _ (by simp)), (((Below.refl _ _).alloc (Nat.le_refl _) _).alloc (by simp) _).alloc (by simp; omega) _⟩
  go_enter Tryz.func43, Tryz.ntmps43
  go_wp2_with fail
  go_loopw [8, 9, 10] (fun q d i wr => ∃ (k : Nat) (gt : Int) (LL : List Pid), k ≤ n ∧ i = .int .i64 k ∧ q = .int .i64 (gt + 1) ∧ 0 ≤ gt ∧ gt ≤ 99 ∧ Hid (TopP E (fun j => j < k) (clsF (x, y) ck ckey) (fun z => z.seq) gt) ∧ Hid (idsE (clsE (E.take k) (x, y) ck ckey) = LL) ∧ Hid (PtA w wr x y ck ckey cv d LL)) (fun _ _ i _ => n - (intOf i).toNat)
  case atStart => exact ⟨0, 0, [], Nat.zero_le _, rfl, rfl, by omega, by omega, Lib.hid (TopP.start E _ (fun k hk => absurd hk (Nat.not_lt_zero _)) _ _), Lib.hid rfl, P0⟩
  case round =>
    clear P0
    obtain ⟨k, gt, LL, hk, rfl, rfl, hg0, hg1, hT, hM, P⟩ := hrel
    have hLl : LL.length ≤ 12 := by
      rw [← hM.out, idsE_len]
      exact Nat.le_trans (List.length_filter_le _ _) (by rw [List.length_take]; have := hn.out; omega)
    by_cases hlt : k < n
    · have hkE : k < E.length := by rw [hn.out]; exact hlt
      have hrk := log_rank hv.out hkE
      obtain ⟨z, hz⟩ : ∃ z, Hid (E.getD k en0 = z) := ⟨_, Lib.hid rfl⟩
      rw [hz.out] at hrk
      obtain ⟨ua, un, uc, hU⟩ : ∃ ua un uc, U k = .slice ua un uc := by obtain ⟨a, c, e, _⟩ := (h.out.at_ k hkE).ids; exact ⟨a, _, c, e⟩
      have xat : ∀ W, Below w.heap.size w W → EnAt W b (off + k * 9) z (.slice ua un uc) := fun W hb => by
        have := (h.out.up hb (Nat.le_refl _)).at_ k hkE
        rw [hz.out, hU] at this; exact this
      have hbl : ∀ W, Below w.heap.size w W → b < W.heap.size := fun W hb => (h.out.up hb (Nat.le_refl _)).lt
      clear h hU
      have kc := fun W => kclash_any z.k z.key z.v ck ckey cv W
      by_cases hne : z.id = (x, y)
      · have hno : ¬ (¬ z.id = (x, y) ∧ kcB z.k z.key ck ckey = true) := fun h => h.1 hne
        obtain ⟨a0, a1, _, _⟩ := blk2 P.out.ia
        obtain ⟨b0, b1, b2, _, _, _⟩ := blk3 P.out.ic
        have hil := lt_of_heap P.out.ia
        have hcl := lt_of_heap P.out.ic
        obtain ⟨q0, q1, q2, q3, q4, q5, q6, q7, q8, _⟩ := xat _ P.out.kp
        have qb := hbl _ P.out.kp
        rw [hne] at q0 q1
        dsimp only at q0 q1
        go_wp2_with fail
        go_quiet (fail)
        replace P := Lib.hid (P.out.up (w' := wr.drewN nq) (bdrewN (Below.refl _ _) _))
        generalize wr.drewN nq = wy at P ⊢
        clear a0 a1 b0 b1 b2 hil hcl q0 q1 q2 q3 q4 q5 q6 q7 q8 qb
        have hM2 := Lib.hid (show idsE (clsE (E.take (k + 1)) (x, y) ck ckey) = LL from by rw [clsE_next hkE, if_neg (by rw [hz.out]; exact hno), List.append_nil]; exact hM.out)
        have T := Lib.hid (hT.out.miss (k := k) up_lt2 (by rw [hz.out]; exact clsF_no hno))
        go_wp2_with fail
        refine ⟨⟨k + 1, gt, LL, by omega, by go_num, rfl, hg0, hg1, T, hM2, P⟩, ?_⟩
        simp [intOf]; omega
      · go_upto_region 6 with fail
        go_cut [33] from 18 to 32 (fun s wx => s = .bool (kcB z.k z.key ck ckey) ∧ Hid (PtA w wx x y ck ckey cv u9 LL))
        case first =>
          obtain ⟨a0, a1, _, _⟩ := blk2 P.out.ia
          obtain ⟨b0, b1, b2, _, _, _⟩ := blk3 P.out.ic
          have hil := lt_of_heap P.out.ia
          have hcl := lt_of_heap P.out.ic
          obtain ⟨q0, q1, q2, q3, q4, q5, q6, q7, q8, _⟩ := xat _ P.out.kp
          have qb := hbl _ P.out.kp
          rcases pid_ne2 hne with hne1 | ⟨hne0, hne1⟩
          · dsimp only at hne1
            go_wp2_with fail
            go_region_with (go_at_call 81; (with_reducible refine (kc _).mono ?_); rintro e wy ⟨rfl, B⟩; have P2 := Lib.hid (PtA.up (PtA.up P.out (Below.drew (Below.refl _ _))) B); clear B)
            all_goals
              go_wp2_with fail
              go_meet
              exact ⟨rfl, P2⟩
          · dsimp only at hne0 hne1
            rw [hne0] at q0
            go_wp2_with fail
            go_region_with (go_at_call 81; (with_reducible refine (kc _).mono ?_); rintro e wy ⟨rfl, B⟩; have P2 := Lib.hid (PtA.up (PtA.up P.out (Below.drew (Below.refl _ _))) B); clear B)
            all_goals
              go_wp2_with fail
              go_meet
              exact ⟨rfl, P2⟩
        case rest =>
          obtain ⟨rfl, P2⟩ := hcut
          clear P
          have P := P2
          clear P2
          obtain ⟨a0, a1, _, _⟩ := blk2 P.out.ia
          obtain ⟨b0, b1, b2, _, _, _⟩ := blk3 P.out.ic
          have hil := lt_of_heap P.out.ia
          have hcl := lt_of_heap P.out.ic
          obtain ⟨q0, q1, q2, q3, q4, q5, q6, q7, q8, _⟩ := xat _ P.out.kp
          have qb := hbl _ P.out.kp
          cases hc : kcB z.k z.key ck ckey with
          | false =>
            have hno : ¬ (¬ z.id = (x, y) ∧ kcB z.k z.key ck ckey = true) := fun h => by rw [hc] at h; cases h.2
            have hM2 := Lib.hid (show idsE (clsE (E.take (k + 1)) (x, y) ck ckey) = LL from by rw [clsE_next hkE, if_neg (by rw [hz.out]; exact hno), List.append_nil]; exact hM.out)
            have T := Lib.hid (hT.out.miss (k := k) up_lt2 (by rw [hz.out]; exact clsF_no hno))
            go_wp2_with fail
            refine ⟨⟨k + 1, gt, LL, by omega, by go_num, rfl, hg0, hg1, T, hM2, P⟩, ?_⟩
            simp [intOf]; omega
          | true =>
            have hs1 := hrk
            have T := Lib.hid (hT.out.hit hkE up_lt2 (by rw [hz.out]; exact clsF_yes hne hc))
            rw [hz.out] at T
            have hM2 := Lib.hid (show idsE (clsE (E.take (k + 1)) (x, y) ck ckey) = LL ++ [(z.id.1, z.id.2)] from by rw [clsE_next hkE, if_pos (by rw [hz.out]; exact ⟨hne, hc⟩), hz.out]; unfold idsE at hM ⊢; rw [List.map_append, hM.out]; rfl)
            go_upto_region 7 with fail
            go_cut [8] from 34 to 41 (fun q wx => q = .int .i64 (max gt z.seq + 1) ∧ Hid (PtA w wx x y ck ckey cv u9 LL))
            case first =>
              by_cases hle : z.seq ≤ gt
              · have hmax : max gt z.seq = gt := Int.max_eq_left hle
                go_wp2_with fail
                go_meet
                exact ⟨by rw [hmax], P⟩
              · have hmax : max gt z.seq = z.seq := Int.max_eq_right (by omega)
                go_wp2_with fail
                go_meet
                exact ⟨by rw [hmax], P⟩
            case rest =>
              obtain ⟨rfl, P2⟩ := hcut
              clear P a0 a1 b0 b1 b2 hil hcl q0 q1 q2 q3 q4 q5 q6 q7 q8 qb
              have P := P2
              clear P2
              obtain ⟨q0, q1, q2, q3, q4, q5, q6, q7, q8, _⟩ := xat _ P.out.kp
              have qb := hbl _ P.out.kp
              have h99 : 0 ≤ max gt z.seq ∧ max gt z.seq ≤ 99 := ⟨Int.le_trans hg0 (Int.le_max_left _ _), Int.max_le.2 ⟨hg1, hs1.2⟩⟩
              obtain ⟨g2, hg2⟩ : ∃ g, Hid (max gt z.seq = g) := ⟨_, Lib.hid rfl⟩
              rw [show max gt ((fun z : En => z.seq) z) = g2 from hg2.out] at T
              rw [hg2.out] at h99 ⊢
              clear hg2
              have hPr := Lib.hid P.out.row
              obtain ⟨m, hm'⟩ : ∃ m, Hid (LL.length = m) := ⟨_, Lib.hid rfl⟩
              rw [hm'.out] at hPr hLl
              have hPs := P.out.kp.size
              go_wp2_with (at_builtin; refine wpList_append_own_at _ rfl _ _ 28 rfl (w.heap.size + 2) 25 i0 (.agg #[.int .i64 0, .int .i64 0]) 2 16 Tryz.underlying28 hi hz0 hz1 hz2 rfl (by decide) _ m (flatP LL) rfl (hPr.out.alloc _) ⟨wc.heap.size, 0, none⟩ 1 1 [.int .i64 z.id.1, .int .i64 z.id.2] rfl rfl ?fc1 ?fc2 ?fc3 ?fc4 ?fc5 ?_)
              try case fc1 => exact two_cells _ _ _ _ _ (by simp)
              case fc2 => intro u hu; simp at hu; rcases hu with rfl | rfl <;> rfl
              case fc3 => unfold maxLen; omega
              case fc4 => omega
              case fc5 => have := P.out.sz; first | omega | (simp; omega)
              intro v' w' hown' hgrow hnil hat
              obtain ⟨LL', P5, hM5⟩ := P.out.next (p := z.id.1) (r := z.id.2) (by rw [hm'.out]; exact hown') hgrow (fun e => hnil e)
              clear hown' hgrow hnil hat hPr hPs P
              have P := Lib.hid P5
              go_wp2_with fail
              refine ⟨⟨k + 1, g2, LL', by omega, by go_num, by first | rfl | (congr 1; omega), by omega, by omega, T, Lib.hid (by rw [hM5]; exact hM2.out), P⟩, ?_⟩
              simp [intOf]; omega
    · obtain rfl : k = n := by omega
      have e := Lib.hid (hT.out.done fun j hj => by rw [← hn.out]; exact hj)
      have hM2 := hM.out
      rw [List.take_of_length_le (by rw [hn.out]; exact Nat.le_refl _)] at hM2
      have R := Lib.hid (row_wide (B' := w.heap.size) ⟨P.out.row, P.out.nn⟩ (by omega))
      rw [← hM2] at R
      have B := Lib.hid P.out.kp
      clear P hM hT hM2 h
      go_wp2_with fail
      go_ret2
      exact ⟨⟨_, by rw [← e.out]; rfl, R.out⟩, B.out⟩
end Go.Proofs.YtdikcenhakfheaaGreatDoor

/- The model's l11Attrs, whatever entries there are. -/
namespace Go.Proofs.YtdikcenhakfheaaGreatDoor
open Go.RowKit
set_option linter.unusedVariables false

set_option maxRecDepth 100000 in
set_option maxHeartbeats 2000000 in
theorem slat11_nil (a : Option Addr) (ca : Nat) (x y ck ckey cv : Int) (w : World) :
    Calls Tryz.prog 43 #[.slice a 0 ca, .agg #[.int .i64 x, .int .i64 y], .agg #[.int .i64 ck, .int .i64 ckey, .int .i64 cv]] w fun e w' => (∃ v, e = .returned (.tuple #[.int .i64 1, v]) ∧ Row w' w.heap.size v []) ∧ Below w.heap.size w w' := by
  have R0 := Lib.hid (row_new ((w.alloc (.cells #[.int .i64 x, .int .i64 y] 25)).alloc (.cells #[.int .i64 ck, .int .i64 ckey, .int .i64 cv] 27)) w.heap.size (by simp; omega))
  have B0 := Lib.hid (show Below w.heap.size w (((w.alloc (.cells #[.int .i64 x, .int .i64 y] 25)).alloc (.cells #[.int .i64 ck, .int .i64 ckey, .int .i64 cv] 27)).alloc (.cells #[] 25)) from (((Below.refl _ _).alloc (Nat.le_refl _) _).alloc (by simp) _).alloc (by simp; omega) _)
  have hs : ((w.alloc (.cells #[.int .i64 x, .int .i64 y] 25)).alloc (.cells #[.int .i64 ck, .int .i64 ckey, .int .i64 cv] 27)).heap.size = w.heap.size + 1 + 1 := by simp
  rw [hs] at R0
  clear hs
  go_enter Tryz.func43, Tryz.ntmps43
  go_wp2_with fail
  refine wp_loop_rounds 1 ?_
  rw [rounds_succ]
  go_wp2_with fail
  go_ret2
  exact ⟨⟨_, rfl, R0.out⟩, B0.out⟩
theorem slat11_any (u : Value) (E : List En) (x y ck ckey cv : Int) (w : World) (hv : logB E = true) (h : Ens w u E) :
    Calls Tryz.prog 43 #[u, .agg #[.int .i64 x, .int .i64 y], .agg #[.int .i64 ck, .int .i64 ckey, .int .i64 cv]] w fun e w' => (∃ v, e = .returned (.tuple #[.int .i64 (topE (clsE E (x, y) ck ckey) + 1), v]) ∧ Row w' w.heap.size v (idsE (clsE E (x, y) ck ckey))) ∧ Below w.heap.size w w' := by
  obtain ⟨a, cap, rfl, h1, h2, h3⟩ := h
  rcases h3 with h3 | ⟨b, off, U, rfl, h4⟩
  · obtain rfl : E = [] := List.length_eq_zero_iff.1 h3
    exact slat11_nil a cap x y ck ckey cv w
  · exact slat11_at b off cap E U x y ck ckey cv w hv h4

end Go.Proofs.YtdikcenhakfheaaGreatDoor

/- The model's l11Put and LogPut. -/
namespace Go.Proofs.YtdikcenhakfheaaGreatDoor
open Go.RowKit
set_option linter.unusedVariables false

theorem ER.wide {w : World} {B B' : Nat} {v : Value} {L : EL} (h : ER w B v L) (hB : B' ≤ B) : ER w B' v L := by
  refine ⟨⟨h.row.1, ?_⟩, h.nn, fun x hx => ?_⟩
  · rcases h.row.2 with hn | ⟨g, cap, cur, rfl, hb, rest⟩
    · exact .inl hn
    · exact .inr ⟨g, cap, cur, rfl, Nat.le_trans hB hb, rest⟩
  · obtain ⟨b, h1, h2, h3⟩ := h.deps x hx
    exact ⟨b, Nat.le_trans hB h1, h2, h3⟩
/-- Where l11Put is: the entry's box, the entries so far. -/
structure PtE (w wr : World) (X : En) (u v : Value) (L : EL) : Prop where
  er : ER wr (w.heap.size + 1) v L
  bx : wr.heap[w.heap.size]? = some (.cells #[.int .i64 X.id.1, .int .i64 X.id.2, .int .i64 X.bal, .int .i64 X.st, .int .i64 X.k, .int .i64 X.key, .int .i64 X.v, .int .i64 X.seq, u] 30 (0, 0))
  kp : Below w.heap.size w wr
section
variable {w wr w' : World} {X : En} {u v : Value} {L : EL}
theorem PtE.up (h : PtE w wr X u v L) (hb : Below wr.heap.size wr w') : PtE w w' X u v L := ⟨h.er.up hb, (hb.block _ (lt_of_heap h.bx)).trans h.bx, bstep h.kp hb⟩
theorem PtE.fresh (h : PtE w wr X u v L) {b : Nat} {x : En × Value} (hb : wr.heap.size ≤ b) (hO : OwnP w' b x.2 x.1.deps) : ∃ b, w.heap.size + 1 ≤ b ∧ v.ownBlock ≠ some b ∧ OwnP w' b x.2 x.1.deps :=
  ⟨b, by have := lt_of_heap h.bx; omega, fun e => by have := (rowT h.er.row e).1.lt; omega, hO⟩
theorem PtE.next (h : PtE w wr X u v L) {o : Obj} {v' : Value} {x : En × Value} {m : Nat} {A : List En} (hown : w'.ownsRow (w.heap.size + 1) 30 9 v' (L.length + 1) (flatE L ++ ecell x)) (hg : (wr.alloc o).grownBy w' (Value.ownBlock v)) (hn : v' ≠ .slice none 0 0)
    (hat : v'.ownBlock = v.ownBlock ∨ v'.ownBlock = some (wr.heap.size + 1)) (hx : ∃ b, w.heap.size + 1 ≤ b ∧ v.ownBlock ≠ some b ∧ OwnP wr b x.2 x.1.deps) (hA : L.map Prod.fst = A) (hm : L.length = m) :
    ∃ L', PtE w w' X u v' L' ∧ L'.map Prod.fst = A ++ [x.1] ∧ L'.length = m + 1 := by
  have hl := lt_of_heap h.bx
  refine ⟨L ++ [x], ⟨h.er.put hown hg hn hat hx, ?_, h.kp.trans ((h.er.grown hg hl).mono (Nat.le_succ _))⟩, by rw [List.map_append, hA]; rfl, by rw [List.length_append, hm]; rfl⟩
  refine (hg.block _ (by simp; omega) fun e => ?_).trans ((Below.heap_alloc _ _ _ hl).trans h.bx)
  have := (rowT h.er.row e.symm).2
  omega
end
/-- One step, by what it finds. -/
theorem step_he {X x : En} (O : List En) (hid : x.id = X.id) : stpE X (O, false) x = (O ++ [X], true) := by unfold stpE; simp [hid, ltP_irr]
theorem step_hn {X x : En} (O : List En) (hid : ¬ x.id = X.id) (hlt : ltP x.id X.id = false) : stpE X (O, false) x = (O ++ [X] ++ [x], true) := by unfold stpE; simp [hid, hlt]
theorem step_m {X x : En} (O : List En) (hlt : ltP x.id X.id = true) : stpE X (O, false) x = (O ++ [x], false) := by
  have hid : ¬ x.id = X.id := fun e => by rw [e, ltP_irr] at hlt; cases hlt
  unfold stpE; simp [hid, hlt]
theorem step_de {X x : En} (O : List En) (hid : x.id = X.id) : stpE X (O, true) x = (O, true) := by unfold stpE; simp [hid]
theorem step_dn {X x : En} (O : List En) (hid : ¬ x.id = X.id) : stpE X (O, true) x = (O ++ [x], true) := by unfold stpE; simp [hid]
theorem pid_ne {a b : Pid} (h : ¬ a = b) : (¬ a.1 = b.1) ∨ (a.1 = b.1 ∧ ¬ a.2 = b.2) := by
  by_cases h1 : a.1 = b.1
  · exact .inr ⟨h1, fun h2 => h (Prod.ext h1 h2)⟩
  · exact .inl h1

set_option maxRecDepth 100000 in
set_option maxHeartbeats 16000000 in
theorem sput11_at (b off ca : Nat) (E : List En) (U : Nat → Value) (X : En) (u : Value) (w : World) (hm : E.length ≤ 12) (h : EnsAt w b off E U) (hu : Ids w u X.deps) :
    Calls Tryz.prog 46 #[.slice (some ⟨b, off, none⟩) E.length ca, env X u] w fun e w' => (∃ v, e = .returned v ∧ EnO w' w.heap.size v (endE X (runE X E))) ∧ Below w.heap.size w w' := by
  obtain ⟨i0, hi, hz0, hz1, hz2⟩ := info_parts info_en
  obtain ⟨ua0, un0, uc0, rfl⟩ : ∃ ua un uc, u = .slice ua un uc := by obtain ⟨a, c, e, _⟩ := hu; exact ⟨a, _, c, e⟩
  have h := Lib.hid h
  have uat := fun W (hb : Below w.heap.size w W) => hu.up hb (Nat.le_refl _)
  obtain ⟨n, hn⟩ : ∃ n, Hid (E.length = n) := ⟨_, Lib.hid rfl⟩
  rw [hn.out] at hm ⊢
  have P0 : Hid (PtE w ((w.alloc (.cells #[.int .i64 X.id.1, .int .i64 X.id.2, .int .i64 X.bal, .int .i64 X.st, .int .i64 X.k, .int .i64 X.key, .int .i64 X.v, .int .i64 X.seq, .slice ua0 un0 uc0] 30)).alloc (.cells #[] 30)) X (.slice ua0 un0 uc0) (.slice (some ⟨w.heap.size + 1, 0, none⟩) 0 0) []) := Lib.hid
    ⟨by have := er_new (w.alloc (.cells #[.int .i64 X.id.1, .int .i64 X.id.2, .int .i64 X.bal, .int .i64 X.st, .int .i64 X.k, .int .i64 X.key, .int .i64 X.v, .int .i64 X.seq, .slice ua0 un0 uc0] 30)) (w.heap.size + 1) (by simp); simpa using this, (Below.heap_alloc _ _ _ (by simp)).trans (heap_alloc_new w _), ((Below.refl _ _).alloc (Nat.le_refl _) _).alloc (by simp) _⟩
  clear hu
  unfold env
  go_enter Tryz.func46, Tryz.ntmps46
  go_wp2_with fail
  go_loopw [5, 6, 7] (fun vo d i wr => ∃ (k : Nat) (LL : EL), k ≤ n ∧ i = .int .i64 k ∧ d = .bool (runE X (E.take k)).2 ∧ Hid (LL.map Prod.fst = (runE X (E.take k)).1) ∧ Hid (PtE w wr X (.slice ua0 un0 uc0) vo LL)) (fun _ _ i _ => n - (intOf i).toNat)
  case atStart => exact ⟨0, [], Nat.zero_le _, rfl, rfl, Lib.hid rfl, P0⟩
  case round =>
    clear P0
    obtain ⟨k, LL, hk, rfl, rfl, hM, P⟩ := hrel
    have hLl : LL.length ≤ 24 := by
      have h1 := runE_len X (E.take k) ([], false)
      have h2 : LL.length = (runE X (E.take k)).1.length := by rw [← hM.out, List.length_map]
      have h3 : (E.take k).length ≤ 12 := by rw [List.length_take, hn.out]; omega
      have h4 : (runE X (E.take k)).1.length ≤ 0 + 2 * (E.take k).length := h1
      omega
    by_cases hlt : k < n
    · have hkE : k < E.length := by rw [hn.out]; exact hlt
      obtain ⟨x, hx⟩ : ∃ x, Hid (E.getD k en0 = x) := ⟨_, Lib.hid rfl⟩
      obtain ⟨ua, un, uc, hU⟩ : ∃ ua un uc, U k = .slice ua un uc := by obtain ⟨a, c, e, _⟩ := (h.out.at_ k hkE).ids; exact ⟨a, _, c, e⟩
      have xat : ∀ W, Below w.heap.size w W → EnAt W b (off + k * 9) x (.slice ua un uc) := fun W hb => by
        have := (h.out.up hb (Nat.le_refl _)).at_ k hkE
        rw [hx.out, hU] at this; exact this
      have hbl : ∀ W, Below w.heap.size w W → b < W.heap.size := fun W hb => (h.out.up hb (Nat.le_refl _)).lt
      obtain ⟨⟨O, q⟩, hr⟩ : ∃ r, Hid (runE X (E.take k) = r) := ⟨_, Lib.hid rfl⟩
      rw [hr.out] at hM ⊢
      dsimp only at hM ⊢
      clear h hU
      cases q
      · by_cases hlt : ltP x.id X.id = true
        · have sl := slt_any x.id.1 x.id.2 X.id.1 X.id.2
          rw [show ltB x.id.1 x.id.2 X.id.1 X.id.2 = true from hlt] at sl
          go_upto_region 6 with fail
          go_cut [27] from 15 to 26 (fun s wx => s = .bool false ∧ Hid (PtE w wx X (.slice ua0 un0 uc0) u5 LL))
          case first =>
            obtain ⟨⟨y0, y1, y2, y3, y4, y5, y6, y7, y8⟩, _, ys⟩ := nine_all P.out.bx
            obtain ⟨q0, q1, q2, q3, q4, q5, q6, q7, q8, qi⟩ := xat _ P.out.kp
            have qb := hbl _ P.out.kp
            go_region_with (go_at_call 76; (with_reducible refine (sl _).mono ?_); rintro e wy ⟨rfl, B⟩; have P2 := Lib.hid (PtE.up (PtE.up P.out (Below.drew (Below.refl _ _))) B); clear B)
            all_goals
              go_wp2_with fail
              go_meet
              exact ⟨rfl, P2⟩
          case rest =>
            obtain ⟨rfl, P2⟩ := hcut
            clear P sl
            have P := P2
            clear P2
            obtain ⟨⟨y0, y1, y2, y3, y4, y5, y6, y7, y8⟩, _, ys⟩ := nine_all P.out.bx
            obtain ⟨q0, q1, q2, q3, q4, q5, q6, q7, q8, qi⟩ := xat _ P.out.kp
            have qb := hbl _ P.out.kp
            have F := Lib.hid (step_m O hlt)
            have hid : ¬ x.id = X.id := fun e => by rw [e, ltP_irr] at hlt; cases hlt
            rcases pid_ne hid with hne | ⟨hne0, hne⟩
            · go_wp2_with fail
              go_quiet (fail)
              replace P := Lib.hid (P.out.up (w' := wc.drewN nq) (bdrewN (Below.refl _ _) _))
              generalize wc.drewN nq = wz3 at P ⊢
              clear y0 y1 y2 y3 y4 y5 y6 y7 y8 ys
              clear q0 q1 q2 q3 q4 q5 q6 q7 q8 qi qb
              clear hne
              obtain ⟨⟨y0, y1, y2, y3, y4, y5, y6, y7, y8⟩, _, ys⟩ := nine_all P.out.bx
              obtain ⟨q0, q1, q2, q3, q4, q5, q6, q7, q8, qi⟩ := xat _ P.out.kp
              have qb := hbl _ P.out.kp
              go_wp2_with fail
              refine (copy_at x.id.1 x.id.2 x.bal x.st x.k x.key x.v x.seq x.deps (.slice ua un uc) _ qi).mono ?_
              rintro e wc2 ⟨⟨cu2, rfl, hrow⟩, B⟩
              have hDl : x.deps.length ≤ 2000000 := by obtain ⟨_, _, _, _, hh, _⟩ := qi; exact hh
              obtain ⟨b2, hb2, hO⟩ := hrow.own hDl
              obtain ⟨cc2, rfl, _⟩ := hO.shape
              have hx2 := Lib.hid (P.out.fresh (x := (x, .slice (some ⟨b2, 0, none⟩) x.deps.length cc2)) hb2 hO)
              replace P := Lib.hid (P.out.up B)
              have hPs := P.out.kp.size
              have hPr := Lib.hid P.out.er.row
              obtain ⟨m, hm'⟩ : ∃ m, Hid (LL.length = m) := ⟨_, Lib.hid rfl⟩
              rw [hm'.out] at hPr hLl
              clear hrow hO B
              clear y0 y1 y2 y3 y4 y5 y6 y7 y8 ys
              clear q0 q1 q2 q3 q4 q5 q6 q7 q8 qi qb
              go_wp2_with (at_builtin; refine wpList_append_own_at _ rfl _ _ 23 rfl (w.heap.size + 1) 30 i0 (.agg #[.int .i64 0, .int .i64 0, .int .i64 0, .int .i64 0, .int .i64 0, .int .i64 0, .int .i64 0, .int .i64 0, .slice none 0 0]) 9 88 Tryz.underlying23 hi hz0 hz1 hz2 rfl (by decide) _ m (flatE LL) rfl (hPr.out.alloc _) ⟨wc2.heap.size, 0, none⟩ 1 1 [.int .i64 x.id.1, .int .i64 x.id.2, .int .i64 x.bal, .int .i64 x.st, .int .i64 x.k, .int .i64 x.key, .int .i64 x.v, .int .i64 x.seq, .slice (some ⟨b2, 0, none⟩) x.deps.length cc2] rfl rfl ?fc1 ?fc2 ?fc3 ?fc4 ?fc5 ?_)
              case fc1 => exact nine_srcE _ _ _ _ _ _ _ _ _ _ _ _ (by simp)
              case fc2 => exact nine_oneE _ _ _ _ _ _ _ _ _ _ _
              case fc3 => unfold maxLen; omega
              case fc4 => omega
              case fc5 => first | omega | (simp; omega)
              intro v' w' hown' hgrow hnil hat
              obtain ⟨LL2, P5, hM5, hl5⟩ := P.out.next (x := (x, .slice (some ⟨b2, 0, none⟩) x.deps.length cc2)) (by rw [hm'.out]; exact hown') hgrow (fun e => hnil e) (hat.imp (fun h => h) (fun h => by simpa using h)) hx2.out hM.out hm'.out
              clear hown' hgrow hnil hat hPr hPs hx2 hM hb2 hDl hm' P
              have P := Lib.hid P5
              have hM := Lib.hid hM5
              replace hLl : LL2.length ≤ 25 := by omega
              clear P5 hM5 hl5
              go_wp2_with fail
              refine ⟨⟨k + 1, LL2, by omega, by go_num, by rw [runE_next X hkE, hx.out, hr.out, F.out], Lib.hid (by rw [runE_next X hkE, hx.out, hr.out, F.out]; exact hM.out), P⟩, ?_⟩
              simp [intOf]; omega
            · go_wp2_with fail
              go_quiet (fail)
              replace P := Lib.hid (P.out.up (w' := wc.drewN nq) (bdrewN (Below.refl _ _) _))
              generalize wc.drewN nq = wz3 at P ⊢
              clear y0 y1 y2 y3 y4 y5 y6 y7 y8 ys
              clear q0 q1 q2 q3 q4 q5 q6 q7 q8 qi qb
              clear hne hne0
              obtain ⟨⟨y0, y1, y2, y3, y4, y5, y6, y7, y8⟩, _, ys⟩ := nine_all P.out.bx
              obtain ⟨q0, q1, q2, q3, q4, q5, q6, q7, q8, qi⟩ := xat _ P.out.kp
              have qb := hbl _ P.out.kp
              go_wp2_with fail
              refine (copy_at x.id.1 x.id.2 x.bal x.st x.k x.key x.v x.seq x.deps (.slice ua un uc) _ qi).mono ?_
              rintro e wc2 ⟨⟨cu2, rfl, hrow⟩, B⟩
              have hDl : x.deps.length ≤ 2000000 := by obtain ⟨_, _, _, _, hh, _⟩ := qi; exact hh
              obtain ⟨b2, hb2, hO⟩ := hrow.own hDl
              obtain ⟨cc2, rfl, _⟩ := hO.shape
              have hx2 := Lib.hid (P.out.fresh (x := (x, .slice (some ⟨b2, 0, none⟩) x.deps.length cc2)) hb2 hO)
              replace P := Lib.hid (P.out.up B)
              have hPs := P.out.kp.size
              have hPr := Lib.hid P.out.er.row
              obtain ⟨m, hm'⟩ : ∃ m, Hid (LL.length = m) := ⟨_, Lib.hid rfl⟩
              rw [hm'.out] at hPr hLl
              clear hrow hO B
              clear y0 y1 y2 y3 y4 y5 y6 y7 y8 ys
              clear q0 q1 q2 q3 q4 q5 q6 q7 q8 qi qb
              go_wp2_with (at_builtin; refine wpList_append_own_at _ rfl _ _ 23 rfl (w.heap.size + 1) 30 i0 (.agg #[.int .i64 0, .int .i64 0, .int .i64 0, .int .i64 0, .int .i64 0, .int .i64 0, .int .i64 0, .int .i64 0, .slice none 0 0]) 9 88 Tryz.underlying23 hi hz0 hz1 hz2 rfl (by decide) _ m (flatE LL) rfl (hPr.out.alloc _) ⟨wc2.heap.size, 0, none⟩ 1 1 [.int .i64 x.id.1, .int .i64 x.id.2, .int .i64 x.bal, .int .i64 x.st, .int .i64 x.k, .int .i64 x.key, .int .i64 x.v, .int .i64 x.seq, .slice (some ⟨b2, 0, none⟩) x.deps.length cc2] rfl rfl ?fc1 ?fc2 ?fc3 ?fc4 ?fc5 ?_)
              case fc1 => exact nine_srcE _ _ _ _ _ _ _ _ _ _ _ _ (by simp)
              case fc2 => exact nine_oneE _ _ _ _ _ _ _ _ _ _ _
              case fc3 => unfold maxLen; omega
              case fc4 => omega
              case fc5 => first | omega | (simp; omega)
              intro v' w' hown' hgrow hnil hat
              obtain ⟨LL2, P5, hM5, hl5⟩ := P.out.next (x := (x, .slice (some ⟨b2, 0, none⟩) x.deps.length cc2)) (by rw [hm'.out]; exact hown') hgrow (fun e => hnil e) (hat.imp (fun h => h) (fun h => by simpa using h)) hx2.out hM.out hm'.out
              clear hown' hgrow hnil hat hPr hPs hx2 hM hb2 hDl hm' P
              have P := Lib.hid P5
              have hM := Lib.hid hM5
              replace hLl : LL2.length ≤ 25 := by omega
              clear P5 hM5 hl5
              go_wp2_with fail
              refine ⟨⟨k + 1, LL2, by omega, by go_num, by rw [runE_next X hkE, hx.out, hr.out, F.out], Lib.hid (by rw [runE_next X hkE, hx.out, hr.out, F.out]; exact hM.out), P⟩, ?_⟩
              simp [intOf]; omega
        · have hlt : ltP x.id X.id = false := by simpa using hlt
          have sl := slt_any x.id.1 x.id.2 X.id.1 X.id.2
          rw [show ltB x.id.1 x.id.2 X.id.1 X.id.2 = false from hlt] at sl
          go_upto_region 6 with fail
          go_cut [27] from 15 to 26 (fun s wx => s = .bool true ∧ Hid (PtE w wx X (.slice ua0 un0 uc0) u5 LL))
          case first =>
            obtain ⟨⟨y0, y1, y2, y3, y4, y5, y6, y7, y8⟩, _, ys⟩ := nine_all P.out.bx
            obtain ⟨q0, q1, q2, q3, q4, q5, q6, q7, q8, qi⟩ := xat _ P.out.kp
            have qb := hbl _ P.out.kp
            go_region_with (go_at_call 76; (with_reducible refine (sl _).mono ?_); rintro e wy ⟨rfl, B⟩; have P2 := Lib.hid (PtE.up (PtE.up P.out (Below.drew (Below.refl _ _))) B); clear B)
            all_goals
              go_wp2_with fail
              go_meet
              exact ⟨rfl, P2⟩
          case rest =>
            obtain ⟨rfl, P2⟩ := hcut
            clear P sl
            have P := P2
            clear P2
            have ui := uat _ P.out.kp
            obtain ⟨⟨y0, y1, y2, y3, y4, y5, y6, y7, y8⟩, _, ys⟩ := nine_all P.out.bx
            go_wp2_with fail
            refine (copy_at X.id.1 X.id.2 X.bal X.st X.k X.key X.v X.seq X.deps (.slice ua0 un0 uc0) _ ui).mono ?_
            rintro e wc3 ⟨⟨cu3, rfl, hrow⟩, B⟩
            have hDl : X.deps.length ≤ 2000000 := by obtain ⟨_, _, _, _, hh, _⟩ := ui; exact hh
            obtain ⟨b3, hb3, hO⟩ := hrow.own hDl
            obtain ⟨cc3, rfl, _⟩ := hO.shape
            have hx3 := Lib.hid (P.out.fresh (x := (X, .slice (some ⟨b3, 0, none⟩) X.deps.length cc3)) hb3 hO)
            replace P := Lib.hid (P.out.up B)
            have hPs := P.out.kp.size
            have hPr := Lib.hid P.out.er.row
            obtain ⟨m, hm'⟩ : ∃ m, Hid (LL.length = m) := ⟨_, Lib.hid rfl⟩
            rw [hm'.out] at hPr hLl
            clear hrow hO B
            clear y0 y1 y2 y3 y4 y5 y6 y7 y8 ys
            clear ui
            go_wp2_with (at_builtin; refine wpList_append_own_at _ rfl _ _ 23 rfl (w.heap.size + 1) 30 i0 (.agg #[.int .i64 0, .int .i64 0, .int .i64 0, .int .i64 0, .int .i64 0, .int .i64 0, .int .i64 0, .int .i64 0, .slice none 0 0]) 9 88 Tryz.underlying23 hi hz0 hz1 hz2 rfl (by decide) _ m (flatE LL) rfl (hPr.out.alloc _) ⟨wc3.heap.size, 0, none⟩ 1 1 [.int .i64 X.id.1, .int .i64 X.id.2, .int .i64 X.bal, .int .i64 X.st, .int .i64 X.k, .int .i64 X.key, .int .i64 X.v, .int .i64 X.seq, .slice (some ⟨b3, 0, none⟩) X.deps.length cc3] rfl rfl ?fc1 ?fc2 ?fc3 ?fc4 ?fc5 ?_)
            case fc1 => exact nine_srcE _ _ _ _ _ _ _ _ _ _ _ _ (by simp)
            case fc2 => exact nine_oneE _ _ _ _ _ _ _ _ _ _ _
            case fc3 => unfold maxLen; omega
            case fc4 => omega
            case fc5 => first | omega | (simp; omega)
            intro v' w' hown' hgrow hnil hat
            obtain ⟨LL2, P5, hM5, hl5⟩ := P.out.next (x := (X, .slice (some ⟨b3, 0, none⟩) X.deps.length cc3)) (by rw [hm'.out]; exact hown') hgrow (fun e => hnil e) (hat.imp (fun h => h) (fun h => by simpa using h)) hx3.out hM.out hm'.out
            clear hown' hgrow hnil hat hPr hPs hx3 hM hb3 hDl hm' P
            have P := Lib.hid P5
            have hM := Lib.hid hM5
            replace hLl : LL2.length ≤ 25 := by omega
            clear P5 hM5 hl5
            obtain ⟨⟨y0, y1, y2, y3, y4, y5, y6, y7, y8⟩, _, ys⟩ := nine_all P.out.bx
            obtain ⟨q0, q1, q2, q3, q4, q5, q6, q7, q8, qi⟩ := xat _ P.out.kp
            have qb := hbl _ P.out.kp
            by_cases hid : x.id = X.id
            · have F := Lib.hid (step_he O hid)
              skip
              rw [hid] at q0 q1
              go_wp2_with fail
              go_quiet (fail)
              replace P := Lib.hid (P.out.up (w' := w'.drewN nq) (bdrewN (Below.refl _ _) _))
              generalize w'.drewN nq = wz4 at P ⊢
              clear y0 y1 y2 y3 y4 y5 y6 y7 y8 ys
              clear q0 q1 q2 q3 q4 q5 q6 q7 q8 qi qb
              go_wp2_with fail
              refine ⟨⟨k + 1, LL2, by omega, by go_num, by rw [runE_next X hkE, hx.out, hr.out, F.out], Lib.hid (by rw [runE_next X hkE, hx.out, hr.out, F.out]; exact hM.out), P⟩, ?_⟩
              simp [intOf]; omega
            · have F := Lib.hid (step_hn O hid hlt)
              skip
              rcases pid_ne hid with hne | ⟨hne0, hne⟩
              · go_wp2_with fail
                go_quiet (fail)
                replace P := Lib.hid (P.out.up (w' := w'.drewN nq) (bdrewN (Below.refl _ _) _))
                generalize w'.drewN nq = wz5 at P ⊢
                clear y0 y1 y2 y3 y4 y5 y6 y7 y8 ys
                clear q0 q1 q2 q3 q4 q5 q6 q7 q8 qi qb
                clear hne
                obtain ⟨⟨y0, y1, y2, y3, y4, y5, y6, y7, y8⟩, _, ys⟩ := nine_all P.out.bx
                obtain ⟨q0, q1, q2, q3, q4, q5, q6, q7, q8, qi⟩ := xat _ P.out.kp
                have qb := hbl _ P.out.kp
                go_wp2_with fail
                refine (copy_at x.id.1 x.id.2 x.bal x.st x.k x.key x.v x.seq x.deps (.slice ua un uc) _ qi).mono ?_
                rintro e wc4 ⟨⟨cu4, rfl, hrow⟩, B⟩
                have hDl : x.deps.length ≤ 2000000 := by obtain ⟨_, _, _, _, hh, _⟩ := qi; exact hh
                obtain ⟨b4, hb4, hO⟩ := hrow.own hDl
                obtain ⟨cc4, rfl, _⟩ := hO.shape
                have hx4 := Lib.hid (P.out.fresh (x := (x, .slice (some ⟨b4, 0, none⟩) x.deps.length cc4)) hb4 hO)
                replace P := Lib.hid (P.out.up B)
                have hPs := P.out.kp.size
                have hPr := Lib.hid P.out.er.row
                obtain ⟨m, hm'⟩ : ∃ m, Hid (LL2.length = m) := ⟨_, Lib.hid rfl⟩
                rw [hm'.out] at hPr hLl
                clear hrow hO B
                clear y0 y1 y2 y3 y4 y5 y6 y7 y8 ys
                clear q0 q1 q2 q3 q4 q5 q6 q7 q8 qi qb
                go_wp2_with (at_builtin; refine wpList_append_own_at _ rfl _ _ 23 rfl (w.heap.size + 1) 30 i0 (.agg #[.int .i64 0, .int .i64 0, .int .i64 0, .int .i64 0, .int .i64 0, .int .i64 0, .int .i64 0, .int .i64 0, .slice none 0 0]) 9 88 Tryz.underlying23 hi hz0 hz1 hz2 rfl (by decide) _ m (flatE LL2) rfl (hPr.out.alloc _) ⟨wc4.heap.size, 0, none⟩ 1 1 [.int .i64 x.id.1, .int .i64 x.id.2, .int .i64 x.bal, .int .i64 x.st, .int .i64 x.k, .int .i64 x.key, .int .i64 x.v, .int .i64 x.seq, .slice (some ⟨b4, 0, none⟩) x.deps.length cc4] rfl rfl ?fc1 ?fc2 ?fc3 ?fc4 ?fc5 ?_)
                case fc1 => exact nine_srcE _ _ _ _ _ _ _ _ _ _ _ _ (by simp)
                case fc2 => exact nine_oneE _ _ _ _ _ _ _ _ _ _ _
                case fc3 => unfold maxLen; omega
                case fc4 => omega
                case fc5 => first | omega | (simp; omega)
                intro v' w' hown' hgrow hnil hat
                obtain ⟨LL3, P5, hM5, hl5⟩ := P.out.next (x := (x, .slice (some ⟨b4, 0, none⟩) x.deps.length cc4)) (by rw [hm'.out]; exact hown') hgrow (fun e => hnil e) (hat.imp (fun h => h) (fun h => by simpa using h)) hx4.out hM.out hm'.out
                clear hown' hgrow hnil hat hPr hPs hx4 hM hb4 hDl hm' P
                have P := Lib.hid P5
                have hM := Lib.hid hM5
                replace hLl : LL3.length ≤ 26 := by omega
                clear P5 hM5 hl5
                go_wp2_with fail
                refine ⟨⟨k + 1, LL3, by omega, by go_num, by rw [runE_next X hkE, hx.out, hr.out, F.out], Lib.hid (by rw [runE_next X hkE, hx.out, hr.out, F.out]; exact hM.out), P⟩, ?_⟩
                simp [intOf]; omega
              · go_wp2_with fail
                go_quiet (fail)
                replace P := Lib.hid (P.out.up (w' := w'.drewN nq) (bdrewN (Below.refl _ _) _))
                generalize w'.drewN nq = wz5 at P ⊢
                clear y0 y1 y2 y3 y4 y5 y6 y7 y8 ys
                clear q0 q1 q2 q3 q4 q5 q6 q7 q8 qi qb
                clear hne hne0
                obtain ⟨⟨y0, y1, y2, y3, y4, y5, y6, y7, y8⟩, _, ys⟩ := nine_all P.out.bx
                obtain ⟨q0, q1, q2, q3, q4, q5, q6, q7, q8, qi⟩ := xat _ P.out.kp
                have qb := hbl _ P.out.kp
                go_wp2_with fail
                refine (copy_at x.id.1 x.id.2 x.bal x.st x.k x.key x.v x.seq x.deps (.slice ua un uc) _ qi).mono ?_
                rintro e wc4 ⟨⟨cu4, rfl, hrow⟩, B⟩
                have hDl : x.deps.length ≤ 2000000 := by obtain ⟨_, _, _, _, hh, _⟩ := qi; exact hh
                obtain ⟨b4, hb4, hO⟩ := hrow.own hDl
                obtain ⟨cc4, rfl, _⟩ := hO.shape
                have hx4 := Lib.hid (P.out.fresh (x := (x, .slice (some ⟨b4, 0, none⟩) x.deps.length cc4)) hb4 hO)
                replace P := Lib.hid (P.out.up B)
                have hPs := P.out.kp.size
                have hPr := Lib.hid P.out.er.row
                obtain ⟨m, hm'⟩ : ∃ m, Hid (LL2.length = m) := ⟨_, Lib.hid rfl⟩
                rw [hm'.out] at hPr hLl
                clear hrow hO B
                clear y0 y1 y2 y3 y4 y5 y6 y7 y8 ys
                clear q0 q1 q2 q3 q4 q5 q6 q7 q8 qi qb
                go_wp2_with (at_builtin; refine wpList_append_own_at _ rfl _ _ 23 rfl (w.heap.size + 1) 30 i0 (.agg #[.int .i64 0, .int .i64 0, .int .i64 0, .int .i64 0, .int .i64 0, .int .i64 0, .int .i64 0, .int .i64 0, .slice none 0 0]) 9 88 Tryz.underlying23 hi hz0 hz1 hz2 rfl (by decide) _ m (flatE LL2) rfl (hPr.out.alloc _) ⟨wc4.heap.size, 0, none⟩ 1 1 [.int .i64 x.id.1, .int .i64 x.id.2, .int .i64 x.bal, .int .i64 x.st, .int .i64 x.k, .int .i64 x.key, .int .i64 x.v, .int .i64 x.seq, .slice (some ⟨b4, 0, none⟩) x.deps.length cc4] rfl rfl ?fc1 ?fc2 ?fc3 ?fc4 ?fc5 ?_)
                case fc1 => exact nine_srcE _ _ _ _ _ _ _ _ _ _ _ _ (by simp)
                case fc2 => exact nine_oneE _ _ _ _ _ _ _ _ _ _ _
                case fc3 => unfold maxLen; omega
                case fc4 => omega
                case fc5 => first | omega | (simp; omega)
                intro v' w' hown' hgrow hnil hat
                obtain ⟨LL3, P5, hM5, hl5⟩ := P.out.next (x := (x, .slice (some ⟨b4, 0, none⟩) x.deps.length cc4)) (by rw [hm'.out]; exact hown') hgrow (fun e => hnil e) (hat.imp (fun h => h) (fun h => by simpa using h)) hx4.out hM.out hm'.out
                clear hown' hgrow hnil hat hPr hPs hx4 hM hb4 hDl hm' P
                have P := Lib.hid P5
                have hM := Lib.hid hM5
                replace hLl : LL3.length ≤ 26 := by omega
                clear P5 hM5 hl5
                go_wp2_with fail
                refine ⟨⟨k + 1, LL3, by omega, by go_num, by rw [runE_next X hkE, hx.out, hr.out, F.out], Lib.hid (by rw [runE_next X hkE, hx.out, hr.out, F.out]; exact hM.out), P⟩, ?_⟩
                simp [intOf]; omega
      · obtain ⟨⟨y0, y1, y2, y3, y4, y5, y6, y7, y8⟩, _, ys⟩ := nine_all P.out.bx
        obtain ⟨q0, q1, q2, q3, q4, q5, q6, q7, q8, qi⟩ := xat _ P.out.kp
        have qb := hbl _ P.out.kp
        go_wp2_with fail
        go_quiet (fail)
        replace P := Lib.hid (P.out.up (w' := wr.drewN nq) (bdrewN (Below.refl _ _) _))
        generalize wr.drewN nq = wy at P ⊢
        clear y0 y1 y2 y3 y4 y5 y6 y7 y8 ys
        clear q0 q1 q2 q3 q4 q5 q6 q7 q8 qi qb
        obtain ⟨⟨y0, y1, y2, y3, y4, y5, y6, y7, y8⟩, _, ys⟩ := nine_all P.out.bx
        obtain ⟨q0, q1, q2, q3, q4, q5, q6, q7, q8, qi⟩ := xat _ P.out.kp
        have qb := hbl _ P.out.kp
        by_cases hid : x.id = X.id
        · have F := Lib.hid (step_de O hid)
          rw [hid] at q0 q1
          go_wp2_with fail
          go_quiet (fail)
          replace P := Lib.hid (P.out.up (w' := wy.drewN nq) (bdrewN (Below.refl _ _) _))
          generalize wy.drewN nq = wz1 at P ⊢
          clear y0 y1 y2 y3 y4 y5 y6 y7 y8 ys
          clear q0 q1 q2 q3 q4 q5 q6 q7 q8 qi qb
          go_wp2_with fail
          refine ⟨⟨k + 1, LL, by omega, by go_num, by rw [runE_next X hkE, hx.out, hr.out, F.out], Lib.hid (by rw [runE_next X hkE, hx.out, hr.out, F.out]; exact hM.out), P⟩, ?_⟩
          simp [intOf]; omega
        · have F := Lib.hid (step_dn O hid)
          rcases pid_ne hid with hne | ⟨hne0, hne⟩
          · go_wp2_with fail
            go_quiet (fail)
            replace P := Lib.hid (P.out.up (w' := wy.drewN nq) (bdrewN (Below.refl _ _) _))
            generalize wy.drewN nq = wz2 at P ⊢
            clear y0 y1 y2 y3 y4 y5 y6 y7 y8 ys
            clear q0 q1 q2 q3 q4 q5 q6 q7 q8 qi qb
            clear hne
            obtain ⟨⟨y0, y1, y2, y3, y4, y5, y6, y7, y8⟩, _, ys⟩ := nine_all P.out.bx
            obtain ⟨q0, q1, q2, q3, q4, q5, q6, q7, q8, qi⟩ := xat _ P.out.kp
            have qb := hbl _ P.out.kp
            go_wp2_with fail
            refine (copy_at x.id.1 x.id.2 x.bal x.st x.k x.key x.v x.seq x.deps (.slice ua un uc) _ qi).mono ?_
            rintro e wc1 ⟨⟨cu1, rfl, hrow⟩, B⟩
            have hDl : x.deps.length ≤ 2000000 := by obtain ⟨_, _, _, _, hh, _⟩ := qi; exact hh
            obtain ⟨b1, hb1, hO⟩ := hrow.own hDl
            obtain ⟨cc1, rfl, _⟩ := hO.shape
            have hx1 := Lib.hid (P.out.fresh (x := (x, .slice (some ⟨b1, 0, none⟩) x.deps.length cc1)) hb1 hO)
            replace P := Lib.hid (P.out.up B)
            have hPs := P.out.kp.size
            have hPr := Lib.hid P.out.er.row
            obtain ⟨m, hm'⟩ : ∃ m, Hid (LL.length = m) := ⟨_, Lib.hid rfl⟩
            rw [hm'.out] at hPr hLl
            clear hrow hO B
            clear y0 y1 y2 y3 y4 y5 y6 y7 y8 ys
            clear q0 q1 q2 q3 q4 q5 q6 q7 q8 qi qb
            go_wp2_with (at_builtin; refine wpList_append_own_at _ rfl _ _ 23 rfl (w.heap.size + 1) 30 i0 (.agg #[.int .i64 0, .int .i64 0, .int .i64 0, .int .i64 0, .int .i64 0, .int .i64 0, .int .i64 0, .int .i64 0, .slice none 0 0]) 9 88 Tryz.underlying23 hi hz0 hz1 hz2 rfl (by decide) _ m (flatE LL) rfl (hPr.out.alloc _) ⟨wc1.heap.size, 0, none⟩ 1 1 [.int .i64 x.id.1, .int .i64 x.id.2, .int .i64 x.bal, .int .i64 x.st, .int .i64 x.k, .int .i64 x.key, .int .i64 x.v, .int .i64 x.seq, .slice (some ⟨b1, 0, none⟩) x.deps.length cc1] rfl rfl ?fc1 ?fc2 ?fc3 ?fc4 ?fc5 ?_)
            case fc1 => exact nine_srcE _ _ _ _ _ _ _ _ _ _ _ _ (by simp)
            case fc2 => exact nine_oneE _ _ _ _ _ _ _ _ _ _ _
            case fc3 => unfold maxLen; omega
            case fc4 => omega
            case fc5 => first | omega | (simp; omega)
            intro v' w' hown' hgrow hnil hat
            obtain ⟨LL2, P5, hM5, hl5⟩ := P.out.next (x := (x, .slice (some ⟨b1, 0, none⟩) x.deps.length cc1)) (by rw [hm'.out]; exact hown') hgrow (fun e => hnil e) (hat.imp (fun h => h) (fun h => by simpa using h)) hx1.out hM.out hm'.out
            clear hown' hgrow hnil hat hPr hPs hx1 hM hb1 hDl hm' P
            have P := Lib.hid P5
            have hM := Lib.hid hM5
            replace hLl : LL2.length ≤ 25 := by omega
            clear P5 hM5 hl5
            go_wp2_with fail
            refine ⟨⟨k + 1, LL2, by omega, by go_num, by rw [runE_next X hkE, hx.out, hr.out, F.out], Lib.hid (by rw [runE_next X hkE, hx.out, hr.out, F.out]; exact hM.out), P⟩, ?_⟩
            simp [intOf]; omega
          · go_wp2_with fail
            go_quiet (fail)
            replace P := Lib.hid (P.out.up (w' := wy.drewN nq) (bdrewN (Below.refl _ _) _))
            generalize wy.drewN nq = wz2 at P ⊢
            clear y0 y1 y2 y3 y4 y5 y6 y7 y8 ys
            clear q0 q1 q2 q3 q4 q5 q6 q7 q8 qi qb
            clear hne hne0
            obtain ⟨⟨y0, y1, y2, y3, y4, y5, y6, y7, y8⟩, _, ys⟩ := nine_all P.out.bx
            obtain ⟨q0, q1, q2, q3, q4, q5, q6, q7, q8, qi⟩ := xat _ P.out.kp
            have qb := hbl _ P.out.kp
            go_wp2_with fail
            refine (copy_at x.id.1 x.id.2 x.bal x.st x.k x.key x.v x.seq x.deps (.slice ua un uc) _ qi).mono ?_
            rintro e wc1 ⟨⟨cu1, rfl, hrow⟩, B⟩
            have hDl : x.deps.length ≤ 2000000 := by obtain ⟨_, _, _, _, hh, _⟩ := qi; exact hh
            obtain ⟨b1, hb1, hO⟩ := hrow.own hDl
            obtain ⟨cc1, rfl, _⟩ := hO.shape
            have hx1 := Lib.hid (P.out.fresh (x := (x, .slice (some ⟨b1, 0, none⟩) x.deps.length cc1)) hb1 hO)
            replace P := Lib.hid (P.out.up B)
            have hPs := P.out.kp.size
            have hPr := Lib.hid P.out.er.row
            obtain ⟨m, hm'⟩ : ∃ m, Hid (LL.length = m) := ⟨_, Lib.hid rfl⟩
            rw [hm'.out] at hPr hLl
            clear hrow hO B
            clear y0 y1 y2 y3 y4 y5 y6 y7 y8 ys
            clear q0 q1 q2 q3 q4 q5 q6 q7 q8 qi qb
            go_wp2_with (at_builtin; refine wpList_append_own_at _ rfl _ _ 23 rfl (w.heap.size + 1) 30 i0 (.agg #[.int .i64 0, .int .i64 0, .int .i64 0, .int .i64 0, .int .i64 0, .int .i64 0, .int .i64 0, .int .i64 0, .slice none 0 0]) 9 88 Tryz.underlying23 hi hz0 hz1 hz2 rfl (by decide) _ m (flatE LL) rfl (hPr.out.alloc _) ⟨wc1.heap.size, 0, none⟩ 1 1 [.int .i64 x.id.1, .int .i64 x.id.2, .int .i64 x.bal, .int .i64 x.st, .int .i64 x.k, .int .i64 x.key, .int .i64 x.v, .int .i64 x.seq, .slice (some ⟨b1, 0, none⟩) x.deps.length cc1] rfl rfl ?fc1 ?fc2 ?fc3 ?fc4 ?fc5 ?_)
            case fc1 => exact nine_srcE _ _ _ _ _ _ _ _ _ _ _ _ (by simp)
            case fc2 => exact nine_oneE _ _ _ _ _ _ _ _ _ _ _
            case fc3 => unfold maxLen; omega
            case fc4 => omega
            case fc5 => first | omega | (simp; omega)
            intro v' w' hown' hgrow hnil hat
            obtain ⟨LL2, P5, hM5, hl5⟩ := P.out.next (x := (x, .slice (some ⟨b1, 0, none⟩) x.deps.length cc1)) (by rw [hm'.out]; exact hown') hgrow (fun e => hnil e) (hat.imp (fun h => h) (fun h => by simpa using h)) hx1.out hM.out hm'.out
            clear hown' hgrow hnil hat hPr hPs hx1 hM hb1 hDl hm' P
            have P := Lib.hid P5
            have hM := Lib.hid hM5
            replace hLl : LL2.length ≤ 25 := by omega
            clear P5 hM5 hl5
            go_wp2_with fail
            refine ⟨⟨k + 1, LL2, by omega, by go_num, by rw [runE_next X hkE, hx.out, hr.out, F.out], Lib.hid (by rw [runE_next X hkE, hx.out, hr.out, F.out]; exact hM.out), P⟩, ?_⟩
            simp [intOf]; omega
    · obtain rfl : k = n := by omega
      have hrun : E.take k = E := List.take_of_length_le (by rw [hn.out]; exact Nat.le_refl _)
      rw [hrun] at hM ⊢
      clear h
      obtain ⟨⟨O, q⟩, hr⟩ : ∃ r, Hid (runE X E = r) := ⟨_, Lib.hid rfl⟩
      rw [hr.out] at hM ⊢
      dsimp only at hM ⊢
      cases q
      · have ui := uat _ P.out.kp
        obtain ⟨⟨y0, y1, y2, y3, y4, y5, y6, y7, y8⟩, _, ys⟩ := nine_all P.out.bx
        go_wp2_with fail
        refine (copy_at X.id.1 X.id.2 X.bal X.st X.k X.key X.v X.seq X.deps (.slice ua0 un0 uc0) _ ui).mono ?_
        rintro e wc5 ⟨⟨cu5, rfl, hrow⟩, B⟩
        have hDl : X.deps.length ≤ 2000000 := by obtain ⟨_, _, _, _, hh, _⟩ := ui; exact hh
        obtain ⟨b5, hb5, hO⟩ := hrow.own hDl
        obtain ⟨cc5, rfl, _⟩ := hO.shape
        have hx5 := Lib.hid (P.out.fresh (x := (X, .slice (some ⟨b5, 0, none⟩) X.deps.length cc5)) hb5 hO)
        replace P := Lib.hid (P.out.up B)
        have hPs := P.out.kp.size
        have hPr := Lib.hid P.out.er.row
        obtain ⟨m, hm'⟩ : ∃ m, Hid (LL.length = m) := ⟨_, Lib.hid rfl⟩
        rw [hm'.out] at hPr hLl
        clear hrow hO B
        clear y0 y1 y2 y3 y4 y5 y6 y7 y8 ys
        clear ui
        go_wp2_with (at_builtin; refine wpList_append_own_at _ rfl _ _ 23 rfl (w.heap.size + 1) 30 i0 (.agg #[.int .i64 0, .int .i64 0, .int .i64 0, .int .i64 0, .int .i64 0, .int .i64 0, .int .i64 0, .int .i64 0, .slice none 0 0]) 9 88 Tryz.underlying23 hi hz0 hz1 hz2 rfl (by decide) _ m (flatE LL) rfl (hPr.out.alloc _) ⟨wc5.heap.size, 0, none⟩ 1 1 [.int .i64 X.id.1, .int .i64 X.id.2, .int .i64 X.bal, .int .i64 X.st, .int .i64 X.k, .int .i64 X.key, .int .i64 X.v, .int .i64 X.seq, .slice (some ⟨b5, 0, none⟩) X.deps.length cc5] rfl rfl ?fc1 ?fc2 ?fc3 ?fc4 ?fc5 ?_)
        case fc1 => exact nine_srcE _ _ _ _ _ _ _ _ _ _ _ _ (by simp)
        case fc2 => exact nine_oneE _ _ _ _ _ _ _ _ _ _ _
        case fc3 => unfold maxLen; omega
        case fc4 => omega
        case fc5 => first | omega | (simp; omega)
        intro v' w' hown' hgrow hnil hat
        obtain ⟨LL2, P5, hM5, hl5⟩ := P.out.next (x := (X, .slice (some ⟨b5, 0, none⟩) X.deps.length cc5)) (by rw [hm'.out]; exact hown') hgrow (fun e => hnil e) (hat.imp (fun h => h) (fun h => by simpa using h)) hx5.out hM.out hm'.out
        clear hown' hgrow hnil hat hPr hPs hx5 hM hb5 hDl hm' P
        have P := Lib.hid P5
        have hM := Lib.hid hM5
        replace hLl : LL2.length ≤ 25 := by omega
        clear P5 hM5 hl5
        have R := ((P.out.er.wide (Nat.le_succ _)).eno (by omega))
        rw [hM.out] at R
        replace R := Lib.hid (show EnO _ w.heap.size _ (endE X (O, false)) from by simpa [endE] using R)
        have B := Lib.hid P.out.kp
        clear P hM
        go_wp2_with fail
        go_ret
        exact ⟨⟨_, rfl, by rw [hr.out]; exact R.out⟩, B.out⟩
      · have R := ((P.out.er.wide (Nat.le_succ _)).eno (by omega))
        rw [hM.out] at R
        replace R := Lib.hid (show EnO _ w.heap.size _ (endE X (O, true)) from by simpa [endE] using R)
        have B := Lib.hid P.out.kp
        clear P hM
        go_wp2_with fail
        go_ret
        exact ⟨⟨_, rfl, by rw [hr.out]; exact R.out⟩, B.out⟩
end Go.Proofs.YtdikcenhakfheaaGreatDoor

/- The model's l11Put at no entries, and LogPut. -/
namespace Go.Proofs.YtdikcenhakfheaaGreatDoor
open Go.RowKit
set_option linter.unusedVariables false

set_option maxRecDepth 100000 in
set_option maxHeartbeats 4000000 in
theorem sput11_nil (a : Option Addr) (ca : Nat) (X : En) (u : Value) (w : World) (hu : Ids w u X.deps) :
    Calls Tryz.prog 46 #[.slice a 0 ca, env X u] w fun e w' => (∃ v, e = .returned v ∧ EnO w' w.heap.size v (endE X (runE X []))) ∧ Below w.heap.size w w' := by
  obtain ⟨i0, hi, hz0, hz1, hz2⟩ := info_parts info_en
  obtain ⟨ua0, un0, uc0, rfl⟩ : ∃ ua un uc, u = .slice ua un uc := by obtain ⟨a, c, e, _⟩ := hu; exact ⟨a, _, c, e⟩
  have uat := fun W (hb : Below w.heap.size w W) => hu.up hb (Nat.le_refl _)
  obtain ⟨LL, hLL⟩ : ∃ l : EL, Hid (l = []) := ⟨[], Lib.hid rfl⟩
  have P : Hid (PtE w ((w.alloc (.cells #[.int .i64 X.id.1, .int .i64 X.id.2, .int .i64 X.bal, .int .i64 X.st, .int .i64 X.k, .int .i64 X.key, .int .i64 X.v, .int .i64 X.seq, .slice ua0 un0 uc0] 30)).alloc (.cells #[] 30)) X (.slice ua0 un0 uc0) (.slice (some ⟨w.heap.size + 1, 0, none⟩) 0 0) LL) := Lib.hid
    ⟨by rw [hLL.out]; have := er_new (w.alloc (.cells #[.int .i64 X.id.1, .int .i64 X.id.2, .int .i64 X.bal, .int .i64 X.st, .int .i64 X.k, .int .i64 X.key, .int .i64 X.v, .int .i64 X.seq, .slice ua0 un0 uc0] 30)) (w.heap.size + 1) (by simp); simpa using this, (Below.heap_alloc _ _ _ (by simp)).trans (heap_alloc_new w _), ((Below.refl _ _).alloc (Nat.le_refl _) _).alloc (by simp) _⟩
  have hM : Hid (LL.map Prod.fst = []) := Lib.hid (by rw [hLL.out]; rfl)
  have hLl : LL.length ≤ 24 := by rw [hLL.out]; exact Nat.zero_le _
  have ui := uat _ P.out.kp
  clear hu hLL uat
  unfold env
  go_enter Tryz.func46, Tryz.ntmps46
  go_wp2_with fail
  refine wp_loop_rounds 1 ?_
  rw [rounds_succ]
  generalize (w.alloc (.cells #[.int .i64 X.id.1, .int .i64 X.id.2, .int .i64 X.bal, .int .i64 X.st, .int .i64 X.k, .int .i64 X.key, .int .i64 X.v, .int .i64 X.seq, .slice ua0 un0 uc0] 30)).alloc (.cells #[] 30) = w0 at P ui ⊢
  obtain ⟨⟨y0, y1, y2, y3, y4, y5, y6, y7, y8⟩, _, ys⟩ := nine_all P.out.bx
  go_wp2_with fail
  refine (copy_at X.id.1 X.id.2 X.bal X.st X.k X.key X.v X.seq X.deps (.slice ua0 un0 uc0) _ ui).mono ?_
  rintro e wc6 ⟨⟨cu6, rfl, hrow⟩, B⟩
  have hDl : X.deps.length ≤ 2000000 := by obtain ⟨_, _, _, _, hh, _⟩ := ui; exact hh
  obtain ⟨b6, hb6, hO⟩ := hrow.own hDl
  obtain ⟨cc6, rfl, _⟩ := hO.shape
  have hx6 := Lib.hid (P.out.fresh (x := (X, .slice (some ⟨b6, 0, none⟩) X.deps.length cc6)) hb6 hO)
  replace P := Lib.hid (P.out.up B)
  have hPs := P.out.kp.size
  have hPr := Lib.hid P.out.er.row
  obtain ⟨m, hm'⟩ : ∃ m, Hid (LL.length = m) := ⟨_, Lib.hid rfl⟩
  rw [hm'.out] at hPr hLl
  clear hrow hO B
  clear y0 y1 y2 y3 y4 y5 y6 y7 y8 ys
  clear ui
  go_wp2_with (at_builtin; refine wpList_append_own_at _ rfl _ _ 23 rfl (w.heap.size + 1) 30 i0 (.agg #[.int .i64 0, .int .i64 0, .int .i64 0, .int .i64 0, .int .i64 0, .int .i64 0, .int .i64 0, .int .i64 0, .slice none 0 0]) 9 88 Tryz.underlying23 hi hz0 hz1 hz2 rfl (by decide) _ m (flatE LL) rfl (hPr.out.alloc _) ⟨wc6.heap.size, 0, none⟩ 1 1 [.int .i64 X.id.1, .int .i64 X.id.2, .int .i64 X.bal, .int .i64 X.st, .int .i64 X.k, .int .i64 X.key, .int .i64 X.v, .int .i64 X.seq, .slice (some ⟨b6, 0, none⟩) X.deps.length cc6] rfl rfl ?fc1 ?fc2 ?fc3 ?fc4 ?fc5 ?_)
  case fc1 => exact nine_srcE _ _ _ _ _ _ _ _ _ _ _ _ (by simp)
  case fc2 => exact nine_oneE _ _ _ _ _ _ _ _ _ _ _
  case fc3 => unfold maxLen; omega
  case fc4 => omega
  case fc5 => first | omega | (simp; omega)
  intro v' w' hown' hgrow hnil hat
  obtain ⟨LL2, P5, hM5, hl5⟩ := P.out.next (x := (X, .slice (some ⟨b6, 0, none⟩) X.deps.length cc6)) (by rw [hm'.out]; exact hown') hgrow (fun e => hnil e) (hat.imp (fun h => h) (fun h => by simpa using h)) hx6.out hM.out hm'.out
  clear hown' hgrow hnil hat hPr hPs hx6 hM hb6 hDl hm' P
  have P := Lib.hid P5
  have hM := Lib.hid hM5
  replace hLl : LL2.length ≤ 25 := by omega
  clear P5 hM5 hl5
  have R := ((P.out.er.wide (Nat.le_succ _)).eno (by omega))
  rw [hM.out] at R
  replace R := Lib.hid (show EnO _ w.heap.size _ (endE X (runE X [])) from by simpa [endE, runE] using R)
  have B := Lib.hid P.out.kp
  clear P hM
  go_wp2_with fail
  go_ret
  exact ⟨⟨_, rfl, R.out⟩, B.out⟩
theorem sput11_any (u : Value) (E : List En) (X : En) (v : Value) (w : World) (hm : E.length ≤ 12) (h : Ens w u E) (hv : Ids w v X.deps) :
    Calls Tryz.prog 46 #[u, env X v] w fun e w' => (∃ v, e = .returned v ∧ EnO w' w.heap.size v (endE X (runE X E))) ∧ Below w.heap.size w w' := by
  obtain ⟨a, cap, rfl, h1, h2, h3⟩ := h
  rcases h3 with h3 | ⟨b, off, U, rfl, h4⟩
  · obtain rfl : E = [] := List.length_eq_zero_iff.1 h3
    exact sput11_nil a cap X v w hv
  · exact sput11_at b off cap E U X v w hm h4 hv
theorem EnO.len {w : World} {B : Nat} {v : Value} {E : List En} (h : EnO w B v E) : ∃ g cap, v = .slice (some ⟨g, 0, none⟩) E.length cap := by
  obtain ⟨g, cap, _, _, rfl, _⟩ := h; exact ⟨g, cap, rfl⟩

theorem EnO.wide {w : World} {B B' : Nat} {v : Value} {E : List En} (h : EnO w B v E) (hB : B' ≤ B) : EnO w B' v E := by
  obtain ⟨g, cap, cur, t, rfl, h0, hg, h1, h2, h3⟩ := h
  refine ⟨g, cap, cur, t, rfl, Nat.le_trans hB h0, hg, h1, h2, fun i hi => ?_⟩
  obtain ⟨b, u, q1, q2, hc, ho⟩ := h3 i hi
  exact ⟨b, u, Nat.le_trans hB q1, q2, hc, ho⟩
/-- What LogPut leaves. -/
def LpP (E : List En) (X : En) (w : World) (e : Ending) (w' : World) : Prop :=
  (∃ v, e = .returned (.tuple #[v, .bool (lputR E X).2]) ∧ EnO w' w.heap.size v (lputR E X).1) ∧ Below w.heap.size w w'
theorem lp_fail {E : List En} {X : En} {w w2 : World} (B : Below w.heap.size w w2) (h : lputR E X = ([], false)) : LpP E X w (.returned (.tuple #[.slice (some ⟨w2.heap.size, 0, none⟩) 0 0, .bool false])) (w2.alloc (.cells #[] 30)) := by
  unfold LpP
  rw [h]
  exact ⟨⟨_, rfl, (er_new w2 w.heap.size B.size).eno (Nat.zero_le _)⟩, B.alloc B.size _⟩

set_option maxRecDepth 100000 in
set_option maxHeartbeats 4000000 in
theorem slput_any (u : Value) (E : List En) (X : En) (v : Value) (w : World) (h : Ens w u E) (hv : Ids w v X.deps) :
    Calls Tryz.prog 93 #[u, env X v] w (LpP E X w) := by
  have sv := fun W (hb : Below w.heap.size w W) => slogv_any u E W (h.up hb (Nat.le_refl _))
  have se := fun W (hb : Below w.heap.size w W) => sentry_any X v W (hv.up hb (Nat.le_refl _))
  have sp := fun W (hm : E.length ≤ 12) (hb : Below w.heap.size w W) => sput11_any u E X v W hm (h.up hb (Nat.le_refl _)) (hv.up hb (Nat.le_refl _))
  obtain ⟨a, cap, hu⟩ : ∃ a cap, u = .slice a E.length cap := by obtain ⟨a, c, e, _⟩ := h; exact ⟨a, c, e⟩
  subst hu
  obtain ⟨ua0, un0, uc0, rfl⟩ : ∃ ua un uc, v = .slice ua un uc := by obtain ⟨a, c, e, _⟩ := hv; exact ⟨a, _, c, e⟩
  clear h hv
  obtain ⟨n, hn⟩ : ∃ n, Hid (E.length = n) := ⟨_, Lib.hid rfl⟩
  rw [hn.out] at sv sp ⊢
  have A0 := Lib.hid (heap_alloc_new w (.cells #[.int .i64 X.id.1, .int .i64 X.id.2, .int .i64 X.bal, .int .i64 X.st, .int .i64 X.k, .int .i64 X.key, .int .i64 X.v, .int .i64 X.seq, .slice ua0 un0 uc0] 30))
  have B0 := Lib.hid ((Below.refl w.heap.size w).alloc (Nat.le_refl _) (.cells #[.int .i64 X.id.1, .int .i64 X.id.2, .int .i64 X.bal, .int .i64 X.st, .int .i64 X.k, .int .i64 X.key, .int .i64 X.v, .int .i64 X.seq, .slice ua0 un0 uc0] 30))
  unfold env at sp se ⊢
  go_enter Tryz.func93, Tryz.ntmps93
  go_wp2_with fail
  refine (sv _ B0.out).mono ?_
  rintro e w1 ⟨rfl, B⟩
  have A1 := Lib.hid (bblk B (lt_of_heap A0.out) A0.out)
  have B1 := Lib.hid (bstep B0.out B)
  obtain ⟨q, hq⟩ : ∃ q, Hid (logB E = q) := ⟨_, Lib.hid rfl⟩
  rw [hq.out]
  clear B sv A0 B0
  obtain ⟨⟨y0, y1, y2, y3, y4, y5, y6, y7, y8⟩, _, ys⟩ := nine_all A1.out
  cases q
  · have R := Lib.hid (lp_fail B1.out (lputR_bad (e := X) hq.out))
    go_wp2_with fail
    go_ret2
    exact R.out
  · go_wp2_with fail
    refine (se _ B1.out).mono ?_
    rintro e w2 ⟨rfl, B⟩
    have A2 := Lib.hid (bblk B (lt_of_heap A1.out) A1.out)
    have B2 := Lib.hid (bstep B1.out B)
    obtain ⟨p, hp⟩ : ∃ q, Hid (enB X = q) := ⟨_, Lib.hid rfl⟩
    rw [hp.out]
    clear B se A1 B1 y0 y1 y2 y3 y4 y5 y6 y7 y8 ys
    obtain ⟨⟨y0, y1, y2, y3, y4, y5, y6, y7, y8⟩, _, ys⟩ := nine_all A2.out
    cases p
    · have R := Lib.hid (lp_fail B2.out (lputR_bad2 (E := E) hp.out))
      go_wp2_with fail
      go_ret2
      exact R.out
    · have hl := (log_of hq.out).1
      rw [hn.out] at hl
      have hs2 := B2.out.size
      have hA := Lib.hid (runE_put (e := X) (log_of hq.out).2.2)
      go_wp2_with fail
      refine (sp _ hl B2.out).mono ?_
      rintro e w3 ⟨⟨v3, rfl, O3⟩, B⟩
      rw [hA.out] at O3
      have B3 := Lib.hid (bstep B2.out B)
      obtain ⟨g, c, rfl⟩ := O3.len
      obtain ⟨m, hm⟩ : ∃ m, Hid ((putE X E).length = m) := ⟨_, Lib.hid rfl⟩
      have hm63 : m ≤ 25 := by
        have h1 := putE_len (e := X) (log_of hq.out).2.2
        rw [← hm.out, h1]
        have := hn.out; split <;> omega
      have O3 := Lib.hid O3
      rw [hm.out]
      clear B sp hA A2 B2 y0 y1 y2 y3 y4 y5 y6 y7 y8 ys
      by_cases h12 : m ≤ 12
      · have R := Lib.hid (lputR_good (E := E) hq.out hp.out (by rw [hm.out]; exact h12))
        have hg : ¬ 12 < m := by omega
        go_wp2_with fail
        go_ret2
        rw [LpP, R.out]
        exact ⟨⟨_, rfl, by have := O3.out; rw [hm.out] at this; exact this.wide hs2⟩, B3.out⟩
      · have R := Lib.hid (lp_fail B3.out (lputR_long (E := E) (e := X) (by rw [hm.out]; exact h12)))
        have hg : 12 < m := by omega
        go_wp2_with fail
        go_ret2
        exact R.out
end Go.Proofs.YtdikcenhakfheaaGreatDoor
