/- Texts laid together. -/
import Derived.Test.YtdikcenhakfheaaGreatDoorC07
import Derived.Test.YtdikcenhakfheaaGreatDoorC18
import Derived.Test.YtdikcenhakfheaaGreatDoorC11
/- The model's l12Next and NextNumber. -/
namespace Go.Proofs.YtdikcenhakfheaaGreatDoor
open Go.RowKit
set_option linter.unusedVariables false

theorem up_lt {k : Nat} : ∀ j : Nat, j < k + 1 ↔ j < k ∨ j = k := fun j => by omega
set_option maxRecDepth 100000 in
set_option maxHeartbeats 4000000 in
theorem snx_at (b off ca : Nat) (E : List En) (U : Nat → Value) (p : Int) (w : World) (hm : E.length ≤ 2000000) (hv : ∀ k, k < E.length → 1 ≤ (E.getD k en0).id.2 ∧ (E.getD k en0).id.2 ≤ 50) (h : EnsAt w b off E U) :
    Calls Tryz.prog 92 #[.slice (some ⟨b, off, none⟩) E.length ca, .int .i64 p] w fun e w' => e = .returned (.int .i64 (topF (ofR p) (fun x => x.id.2) E + 1)) ∧ Below w.heap.size w w' := by
  have hb := h.lt
  have h := Lib.hid h
  have hv := Lib.hid hv
  obtain ⟨n, hn⟩ : ∃ n, Hid (E.length = n) := ⟨_, Lib.hid rfl⟩
  rw [hn.out] at hm ⊢
  go_enter Tryz.func92, Tryz.ntmps92
  go_wp2_with fail
  go_loopw [5, 6] (fun o i wr => ∃ (k : Nat) (g : Int), k ≤ n ∧ i = .int .i64 k ∧ o = .int .i64 (g + 1) ∧ 0 ≤ g ∧ g ≤ 50 ∧ Hid (TopP E (fun j => j < k) (ofR p) (fun x => x.id.2) g) ∧ Hid (Below w.heap.size w wr)) (fun _ i _ => n - (intOf i).toNat)
  case atStart => exact ⟨0, 0, Nat.zero_le _, rfl, rfl, by omega, by omega, Lib.hid (TopP.start E _ (fun k hk => absurd hk (Nat.not_lt_zero _)) _ _), Lib.hid (Below.refl _ _)⟩
  case round =>
    obtain ⟨k, g, hk, rfl, rfl, hg0, hg1, hT, hnx⟩ := hrel
    by_cases hlt : k < n
    · have hkE : k < E.length := by rw [hn.out]; exact hlt
      have hP := h.out.at_ k hkE
      have q0 := (hnx.out.cell (p := ⟨b, off + k * 9, none⟩) hb).trans hP.c0
      have q1 := (hnx.out.cell (p := ⟨b, off + k * 9 + 1, none⟩) hb).trans hP.c1
      have hbl := Nat.lt_of_lt_of_le hb hnx.out.size
      have hr := hv.out k hkE
      obtain ⟨x, hx⟩ : ∃ x, Hid (E.getD k en0 = x) := ⟨_, Lib.hid rfl⟩
      rw [hx.out] at q0 q1 hr
      clear hP h
      by_cases hp : x.id.1 = p
      · have T := Lib.hid (hT.out.hit hkE up_lt (by rw [hx.out]; unfold ofR; simpa using hp))
        rw [hx.out] at T
        by_cases hle : g ≤ x.id.2
        · have hmax : max g x.id.2 = x.id.2 := Int.max_eq_right hle
          rw [show max g ((fun x : En => x.id.2) x) = x.id.2 from hmax] at T
          go_wp2_with fail
          refine ⟨⟨k + 1, x.id.2, by omega, by go_num, by first | rfl | (congr 1; omega), by omega, by omega, T, hnx⟩, ?_⟩
          simp [intOf]; omega
        · have hmax : max g x.id.2 = g := Int.max_eq_left (by omega)
          rw [show max g ((fun x : En => x.id.2) x) = g from hmax] at T
          go_wp2_with fail
          refine ⟨⟨k + 1, g, by omega, by go_num, by first | rfl | (congr 1; omega), by omega, by omega, T, hnx⟩, ?_⟩
          simp [intOf]; omega
      · have T := Lib.hid (hT.out.miss (k := k) up_lt (by rw [hx.out]; unfold ofR; simpa using hp))
        go_wp2_with fail
        refine ⟨⟨k + 1, g, by omega, by go_num, rfl, hg0, hg1, T, hnx⟩, ?_⟩
        simp [intOf]; omega
    · obtain rfl : k = n := by omega
      have e := Lib.hid (hT.out.done fun j hj => by rw [← hn.out]; exact hj)
      go_wp2_with fail
      go_ret
      exact ⟨by rw [← e.out]; rfl, hnx.out⟩
set_option maxRecDepth 100000 in
theorem snx_nil (a : Option Addr) (ca : Nat) (p : Int) (w : World) :
    Calls Tryz.prog 92 #[.slice a 0 ca, .int .i64 p] w fun e w' => e = .returned (.int .i64 1) ∧ Below w.heap.size w w' := by
  go_enter Tryz.func92, Tryz.ntmps92
  go_wp2_with fail
  refine wp_loop_rounds 1 ?_
  rw [rounds_succ]
  go_wp2_with fail
  go_ret
  exact ⟨rfl, Below.refl _ _⟩
theorem snx_any (u : Value) (E : List En) (p : Int) (w : World) (hv : logB E = true) (h : Ens w u E) :
    Calls Tryz.prog 92 #[u, .int .i64 p] w fun e w' => e = .returned (.int .i64 (topF (ofR p) (fun x => x.id.2) E + 1)) ∧ Below w.heap.size w w' := by
  obtain ⟨a, cap, rfl, h1, h2, h3⟩ := h
  rcases h3 with h3 | ⟨b, off, U, rfl, h4⟩
  · obtain rfl : E = [] := List.length_eq_zero_iff.1 h3
    exact snx_nil a cap p w
  · refine snx_at b off cap E U p w h2 (fun k hk => ?_) h4
    have := log_num hv hk
    have : 0 ≤ (E.getD k en0).id.1 ∧ (E.getD k en0).id.1 ≤ 4 ∧ 1 ≤ (E.getD k en0).id.2 ∧ (E.getD k en0).id.2 ≤ 50 := by simpa [okP, idB] using this
    omega
theorem top_num {E : List En} (hv : logB E = true) (p : Int) : 0 ≤ topF (ofR p) (fun x => x.id.2) E ∧ topF (ofR p) (fun x => x.id.2) E ≤ 50 := by
  refine ⟨topF_nn _ _ _, ?_⟩
  rcases topF_is (f := ofR p) (v := fun x => x.id.2) (E := E) with e | ⟨x, e1, _, e3⟩
  · omega
  · obtain ⟨k, hk, rfl⟩ := mem_enD e1
    have := log_num hv hk
    have : 0 ≤ (E.getD k en0).id.1 ∧ (E.getD k en0).id.1 ≤ 4 ∧ 1 ≤ (E.getD k en0).id.2 ∧ (E.getD k en0).id.2 ≤ 50 := by simpa [okP, idB] using this
    rw [← e3]; exact this.2.2.2

set_option maxRecDepth 100000 in
set_option maxHeartbeats 2000000 in
/-- WHAT THE MODEL'S NextNumber ANSWERS. -/
theorem snextn_any (u : Value) (E : List En) (p : Int) (w : World) (h : Ens w u E) :
    Calls Tryz.prog 57 #[u, .int .i64 p] w fun e w' => e = .returned (.int .i64 (nextR E p)) ∧ Below w.heap.size w w' := by
  have sv := fun W (hb : Below w.heap.size w W) => slogv_any u E W (h.up hb (Nat.le_refl _))
  have sn := fun W (hv : logB E = true) (hb : Below w.heap.size w W) => snx_any u E p W hv (h.up hb (Nat.le_refl _))
  clear h
  have B0 := Lib.hid (Below.refl w.heap.size w)
  go_enter Tryz.func57, Tryz.ntmps57
  go_wp2_with fail
  refine (sv _ B0.out).mono ?_
  rintro e w1 ⟨rfl, B⟩
  have B1 := Lib.hid (bstep B0.out B)
  obtain ⟨q, hq⟩ : ∃ q, Hid (logB E = q) := ⟨_, Lib.hid rfl⟩
  rw [hq.out]
  clear B sv B0
  cases q
  · have R := Lib.hid (nextR_bad (p := p) hq.out)
    go_wp2_with fail
    go_ret
    exact ⟨by rw [R.out]; rfl, B1.out⟩
  · go_wp2_with fail
    refine (in_any _ _ _ _).mono ?_
    rintro e w2 ⟨rfl, rfl⟩
    by_cases hp : 0 ≤ p ∧ p ≤ 4
    · have hpb : inB p 0 4 = true := by simpa [inB] using hp
      rw [hpb]
      have hT := top_num hq.out p
      have sn1 := fun W hb => sn W hq.out hb
      obtain ⟨t, ht⟩ : ∃ t, Hid (topF (ofR p) (fun x => x.id.2) E = t) := ⟨_, Lib.hid rfl⟩
      have hg := fun h => nextR_good (E := E) (p := p) hq.out hp h
      have hf := fun h => nextR_full (E := E) (p := p) h
      rw [ht.out] at hT sn1 hg hf
      have hg := Lib.hid hg
      have hf := Lib.hid hf
      clear sn hpb
      go_wp2_with fail
      refine (sn1 _ B1.out).mono ?_
      rintro e w3 ⟨rfl, B⟩
      have B3 := Lib.hid (bstep B1.out B)
      clear B B1
      by_cases h50 : t + 1 ≤ 50
      · have hR := Lib.hid (hg.out (by omega))
        have hgt : ¬ 50 < t + 1 := by omega
        go_wp2_with fail
        refine (sn1 _ B3.out).mono ?_
        rintro e w4 ⟨rfl, B⟩
        have B4 := Lib.hid (bstep B3.out B)
        clear B B3
        go_wp2_with fail
        go_ret
        exact ⟨by rw [hR.out]; rfl, B4.out⟩
      · have hR := Lib.hid (hf.out (by omega))
        have hgt : 50 < t + 1 := by omega
        go_wp2_with fail
        go_ret
        exact ⟨by rw [hR.out]; rfl, B3.out⟩
    · have hpb : inB p 0 4 = false := by simpa [inB] using hp
      have hR := Lib.hid (nextR_bad2 (E := E) (p := p) hp)
      rw [hpb]
      go_wp2_with fail
      go_ret
      exact ⟨by rw [hR.out]; rfl, B1.out⟩
end Go.Proofs.YtdikcenhakfheaaGreatDoor

/- The program's next number: a range over the book. -/
namespace Go.Proofs.YtdikcenhakfheaaGreatDoor
open Go.RowKit
set_option linter.unusedVariables false

theorem id_resN (tm : Array Value) (w : World) (b : Nat) (x y : Value) (t : TypeId) (h2 : tm[4]? = some (.pointer (some ⟨b, 0, none⟩))) (h : w.heap[b]? = some (.cells #[x, y] t (0, 0))) :
    (results Tryz.f59 tm).run Tryz.prog w = .ok (.agg #[x, y]) w := by
  obtain ⟨t0, t1, _, _⟩ := blk2 h
  simp [results, Tryz.results59, go_sem, h2, t0, t1]

set_option maxRecDepth 100000 in
set_option maxHeartbeats 4000000 in
/-- THE NEXT ID OF A REPLICA, BY A LOG's BOOK. -/
theorem inx_book (bb : Nat) (E : List En) (U : Nat → Value) (p : Int) (w : World) (hv : logB E = true) (h : Book w bb E.length (mapE E U E.length)) :
    Calls Tryz.prog 59 #[.map (some bb), .int .i64 p] w fun e w' => e = .returned (.agg #[.int .i64 p, .int .i64 (topF (ofR p) (fun x => x.id.2) E + 1)]) ∧ Below w.heap.size w w' := by
  have B0 := Lib.hid ((Below.refl w.heap.size w).alloc (Nat.le_refl _) (.cells #[.int .i64 0, .int .i64 0] 25))
  have O0 := Lib.hid (heap_alloc_new w (.cells #[.int .i64 0, .int .i64 0] 25))
  have hbb := h.lt
  have hB := Lib.hid (h.up B0.out hbb)
  have hv := Lib.hid hv
  clear h
  go_enter Tryz.func59, Tryz.ntmps59
  go_wp2_with (at_range; refine bk_range rfl _ 69 rfl _ Tryz.underlying69 hv.out rfl hB.out ?_; intro w0 cnt0 hr0 hg0 hs0)
  go_frame
  have B1 := Lib.hid (below_fresh B0.out hg0)
  have O1 := Lib.hid ((hg0.block w.heap.size (by simp) (by simp)).trans O0.out)
  have hr0 := Lib.hid hr0
  have hrs : (w.alloc (.cells #[.int .i64 0, .int .i64 0] 25)).heap.size = w.heap.size + 1 := by simp
  rw [hrs] at hr0 ⊢
  clear hg0 hs0 B0 O0 hB hrs
  go_loopw [5] (fun g wr => ∃ (V : List Nat) (cnt : Nat) (gi : Int), g = .int .i64 gi ∧ 0 ≤ gi ∧ gi ≤ 50 ∧ Hid (BkR wr bb (w.heap.size + 1) E U V cnt) ∧ Hid (TopP E (fun j => j ∈ V) (ofR p) (fun x => x.id.2) gi) ∧ Hid (wr.heap[w.heap.size]? = some (.cells #[.int .i64 0, .int .i64 0] 25 (0, 0))) ∧ Hid (Below w.heap.size w wr)) (fun _ wr => wr.rangeLeft bb (w.heap.size + 1))
  case atStart => exact ⟨[], cnt0, 0, rfl, by omega, by omega, hr0, Lib.hid (TopP.start E _ (fun k hk => by simp at hk) _ _), O1, B1⟩
  case round =>
    clear hr0 O1 B1
    obtain ⟨V, cnt, gi, rfl, hg0, hg50, hBk, hT, hO, hnx⟩ := hrel
    go_wp2_with (at_next; refine bk_next rfl _ rfl hv.out rfl hBk.out ?_ ?_)
    · intro hall
      have e := Lib.hid (hT.out.done hall)
      obtain ⟨o0, o1, f0, f1⟩ := blk2 hO.out
      have hol := lt_of_heap hO.out
      clear hBk hT
      go_wp2_with fail
      have hfin := heap_setCell_same _ w.heap.size 1 _ _ (.int .i64 (gi + 1)) (heap_setCell_same _ w.heap.size 0 _ _ (.int .i64 p) hO.out)
      simp only [List.setIfInBounds_toArray, List.set_cons_zero, List.set_cons_succ] at hfin
      refine bodyPost_ret (id_resN _ _ _ _ _ _ rfl hfin) rfl ⟨?_, (hnx.out.setCell (p := ⟨w.heap.size, 0, none⟩) (Nat.le_refl _) _).setCell (p := ⟨w.heap.size, 1, none⟩) (Nat.le_refl _) _⟩
      rw [← e.out]
    · intro k w1 cnt1 hk hBk1 hlt hg1 hs1 hen
      have hnum := log_num hv.out hk
      have hnum : 0 ≤ (E.getD k en0).id.1 ∧ (E.getD k en0).id.1 ≤ 4 ∧ 1 ≤ (E.getD k en0).id.2 ∧ (E.getD k en0).id.2 ≤ 50 := by simpa [okP, idB] using hnum
      have hO1 := Lib.hid ((hg1.block w.heap.size (lt_of_heap hO.out) (by simp)).trans hO.out)
      have B1 := Lib.hid (below_turned hnx.out hg1 (Nat.le_succ _))
      have hl := hBk.out.left
      have hBk1 := Lib.hid hBk1
      obtain ⟨x, hx⟩ : ∃ x, Hid (E.getD k en0 = x) := ⟨_, Lib.hid rfl⟩
      have Th := Lib.hid (fun hf => hT.out.hit (S' := fun j => j ∈ V ++ [k]) hk (fun j => by simp) hf)
      have Tm := Lib.hid (fun hf => hT.out.miss (S' := fun j => j ∈ V ++ [k]) (k := k) (fun j => by simp) hf)
      simp only [← List.getD_eq_getElem?_getD] at hen ⊢
      rw [hx.out] at hen hnum Th Tm ⊢
      have BA := (Below.refl w1.heap.size w1).alloc (Nat.le_refl _) (.cells #[.int .i64 x.id.1, .int .i64 x.id.2] 25)
      replace hBk1 := Lib.hid (hBk1.out.kept BA)
      replace hO1 := Lib.hid ((BA.block _ (lt_of_heap hO1.out)).trans hO1.out)
      replace B1 := Lib.hid (bstep B1.out BA)
      unfold idv2 env at hen
      unfold idv2 env
      clear hO hnx hT hBk hg1 BA
      by_cases hp : x.id.1 = p
      · have T := Lib.hid (Th.out (by unfold ofR; simpa using hp))
        rw [hp] at hBk1 hO1 B1
        by_cases hle : gi ≤ x.id.2
        · have hmax : max gi x.id.2 = x.id.2 := Int.max_eq_right hle
          rw [show max gi ((fun x : En => x.id.2) x) = x.id.2 from hmax] at T
          go_wp2_with fail
          go_roundw
          case rel => exact ⟨_, cnt1, x.id.2, by first | rfl | (congr 1; omega), by omega, by omega, hBk1, T, hO1, B1⟩
          case measure => rw [hBk1.out.left, hl]; omega
        · have hmax : max gi x.id.2 = gi := Int.max_eq_left (by omega)
          rw [show max gi ((fun x : En => x.id.2) x) = gi from hmax] at T
          go_wp2_with fail
          go_roundw
          case rel => exact ⟨_, cnt1, gi, by first | rfl | (congr 1; omega), by omega, by omega, hBk1, T, hO1, B1⟩
          case measure => rw [hBk1.out.left, hl]; omega
      · have T := Lib.hid (Tm.out (by unfold ofR; simpa using hp))
        go_wp2_with fail
        go_roundw
        case rel => exact ⟨_, cnt1, gi, rfl, hg0, hg50, hBk1, T, hO1, B1⟩
        case measure => rw [hBk1.out.left, hl]; omega
end Go.Proofs.YtdikcenhakfheaaGreatDoor
