/- Texts laid together. -/
import Derived.Test.YtlipmjbeiiifkaaDoorC07
import Derived.Test.YtlipmjbeiiifkaaDoorC19
import Derived.Test.YtlipmjbeiiifkaaDoorC11
import Derived.Test.YtlipmjbeiiifkaaDoorC18
/- The model's l12Next and NextNumber. -/
namespace Go.Proofs.YtlipmjbeiiifkaaDoor
open Go.RowKit
set_option linter.unusedVariables false

theorem up_lt {k : Nat} : ∀ j : Nat, j < k + 1 ↔ j < k ∨ j = k := fun j => by omega
set_option maxRecDepth 100000 in
set_option maxHeartbeats 4000000 in
theorem snx_at (b off ca : Nat) (E : List En) (U : Nat → Value) (p : Int) (w : World) (hm : E.length ≤ 2000000) (hv : ∀ k, k < E.length → 1 ≤ (E.getD k en0).id.2 ∧ (E.getD k en0).id.2 ≤ 50) (h : EnsAt w b off E U) :
    Calls Tryd.prog 66 #[.slice (some ⟨b, off, none⟩) E.length ca, .int .i64 p] w fun e w' => e = .returned (.int .i64 (topF (ofR p) (fun x => x.id.2) E + 1)) ∧ Below w.heap.size w w' := by
  have hb := h.lt
  have h := Lib.hid h
  have hv := Lib.hid hv
  obtain ⟨n, hn⟩ : ∃ n, Hid (E.length = n) := ⟨_, Lib.hid rfl⟩
  rw [hn.out] at hm ⊢
  go_enter Tryd.func66, Tryd.ntmps66
  go_wp2_with fail
  go_loopw [5, 6] (fun o i wr => ∃ (k : Nat) (g : Int), k ≤ n ∧ i = .int .i64 k ∧ o = .int .i64 (g + 1) ∧ 0 ≤ g ∧ g ≤ 50 ∧ Hid (TopP E (fun j => j < k) (ofR p) (fun x => x.id.2) g) ∧ Hid (Below w.heap.size w wr)) (fun _ i _ => n - (intOf i).toNat)
  case atStart => exact ⟨0, 0, Nat.zero_le _, rfl, rfl, by omega, by omega, Lib.hid (TopP.start E _ (fun k hk => absurd hk (Nat.not_lt_zero _)) _ _), Lib.hid (Below.refl _ _)⟩
  case round =>
    obtain ⟨k, g, hk, rfl, rfl, hg0, hg1, hT, hnx⟩ := hrel
    by_cases hlt : k < n
    · have hkE : k < E.length := by rw [hn.out]; exact hlt
      have hP := h.out.at_ k hkE
      have q0 := (hnx.out.cell (p := ⟨b, off + k * 9, none⟩) hb).trans hP.c0
      have q1 := (hnx.out.cell (p := ⟨b, off + k * 9 + 1, none⟩) hb).trans hP.c1
      have hbl := Nat.lt_of_lt_of_le hb hnx.out.size
      have hr := hv.out k hkE
      obtain ⟨x, hx⟩ : ∃ x, Hid (E.getD k en0 = x) := ⟨_, Lib.hid rfl⟩
      rw [hx.out] at q0 q1 hr
      clear hP h
      by_cases hp : x.id.1 = p
      · have T := Lib.hid (hT.out.hit hkE up_lt (by rw [hx.out]; unfold ofR; simpa using hp))
        rw [hx.out] at T
        by_cases hle : g ≤ x.id.2
        · have hmax : max g x.id.2 = x.id.2 := Int.max_eq_right hle
          rw [show max g ((fun x : En => x.id.2) x) = x.id.2 from hmax] at T
          go_wp2_with fail
          refine ⟨⟨k + 1, x.id.2, by omega, by go_num, by first | rfl | (congr 1; omega), by omega, by omega, T, hnx⟩, ?_⟩
          simp [intOf]; omega
        · have hmax : max g x.id.2 = g := Int.max_eq_left (by omega)
          rw [show max g ((fun x : En => x.id.2) x) = g from hmax] at T
          go_wp2_with fail
          refine ⟨⟨k + 1, g, by omega, by go_num, by first | rfl | (congr 1; omega), by omega, by omega, T, hnx⟩, ?_⟩
          simp [intOf]; omega
      · have T := Lib.hid (hT.out.miss (k := k) up_lt (by rw [hx.out]; unfold ofR; simpa using hp))
        go_wp2_with fail
        refine ⟨⟨k + 1, g, by omega, by go_num, rfl, hg0, hg1, T, hnx⟩, ?_⟩
        simp [intOf]; omega
    · obtain rfl : k = n := by omega
      have e := Lib.hid (hT.out.done fun j hj => by rw [← hn.out]; exact hj)
      go_wp2_with fail
      go_ret
      exact ⟨by rw [← e.out]; rfl, hnx.out⟩
set_option maxRecDepth 100000 in
theorem snx_nil (a : Option Addr) (ca : Nat) (p : Int) (w : World) :
    Calls Tryd.prog 66 #[.slice a 0 ca, .int .i64 p] w fun e w' => e = .returned (.int .i64 1) ∧ Below w.heap.size w w' := by
  go_enter Tryd.func66, Tryd.ntmps66
  go_wp2_with fail
  refine wp_loop_rounds 1 ?_
  rw [rounds_succ]
  go_wp2_with fail
  go_ret
  exact ⟨rfl, Below.refl _ _⟩
theorem snx_any (u : Value) (E : List En) (p : Int) (w : World) (hv : logB E = true) (h : Ens w u E) :
    Calls Tryd.prog 66 #[u, .int .i64 p] w fun e w' => e = .returned (.int .i64 (topF (ofR p) (fun x => x.id.2) E + 1)) ∧ Below w.heap.size w w' := by
  obtain ⟨a, cap, rfl, h1, h2, h3⟩ := h
  rcases h3 with h3 | ⟨b, off, U, rfl, h4⟩
  · obtain rfl : E = [] := List.length_eq_zero_iff.1 h3
    exact snx_nil a cap p w
  · refine snx_at b off cap E U p w h2 (fun k hk => ?_) h4
    have := log_num hv hk
    have : 0 ≤ (E.getD k en0).id.1 ∧ (E.getD k en0).id.1 ≤ 4 ∧ 1 ≤ (E.getD k en0).id.2 ∧ (E.getD k en0).id.2 ≤ 50 := by simpa [okP, idB] using this
    omega
theorem top_num {E : List En} (hv : logB E = true) (p : Int) : 0 ≤ topF (ofR p) (fun x => x.id.2) E ∧ topF (ofR p) (fun x => x.id.2) E ≤ 50 := by
  refine ⟨topF_nn _ _ _, ?_⟩
  rcases topF_is (f := ofR p) (v := fun x => x.id.2) (E := E) with e | ⟨x, e1, _, e3⟩
  · omega
  · obtain ⟨k, hk, rfl⟩ := mem_enD e1
    have := log_num hv hk
    have : 0 ≤ (E.getD k en0).id.1 ∧ (E.getD k en0).id.1 ≤ 4 ∧ 1 ≤ (E.getD k en0).id.2 ∧ (E.getD k en0).id.2 ≤ 50 := by simpa [okP, idB] using this
    rw [← e3]; exact this.2.2.2

set_option maxRecDepth 100000 in
set_option maxHeartbeats 2000000 in
/-- WHAT THE MODEL'S NextNumber ANSWERS. -/
theorem snextn_any (u : Value) (E : List En) (p : Int) (w : World) (h : Ens w u E) :
    Calls Tryd.prog 35 #[u, .int .i64 p] w fun e w' => e = .returned (.int .i64 (nextR E p)) ∧ Below w.heap.size w w' := by
  have sv := fun W (hb : Below w.heap.size w W) => slogv_any u E W (h.up hb (Nat.le_refl _))
  have sn := fun W (hv : logB E = true) (hb : Below w.heap.size w W) => snx_any u E p W hv (h.up hb (Nat.le_refl _))
  clear h
  have B0 := Lib.hid (Below.refl w.heap.size w)
  go_enter Tryd.func35, Tryd.ntmps35
  go_wp2_with fail
  refine (sv _ B0.out).mono ?_
  rintro e w1 ⟨rfl, B⟩
  have B1 := Lib.hid (bstep B0.out B)
  obtain ⟨q, hq⟩ : ∃ q, Hid (logB E = q) := ⟨_, Lib.hid rfl⟩
  rw [hq.out]
  clear B sv B0
  cases q
  · have R := Lib.hid (nextR_bad (p := p) hq.out)
    go_wp2_with fail
    go_ret
    exact ⟨by rw [R.out]; rfl, B1.out⟩
  · go_wp2_with fail
    refine (in_any _ _ _ _).mono ?_
    rintro e w2 ⟨rfl, rfl⟩
    by_cases hp : 0 ≤ p ∧ p ≤ 4
    · have hpb : inB p 0 4 = true := by simpa [inB] using hp
      rw [hpb]
      have hT := top_num hq.out p
      have sn1 := fun W hb => sn W hq.out hb
      obtain ⟨t, ht⟩ : ∃ t, Hid (topF (ofR p) (fun x => x.id.2) E = t) := ⟨_, Lib.hid rfl⟩
      have hg := fun h => nextR_good (E := E) (p := p) hq.out hp h
      have hf := fun h => nextR_full (E := E) (p := p) h
      rw [ht.out] at hT sn1 hg hf
      have hg := Lib.hid hg
      have hf := Lib.hid hf
      clear sn hpb
      go_wp2_with fail
      refine (sn1 _ B1.out).mono ?_
      rintro e w3 ⟨rfl, B⟩
      have B3 := Lib.hid (bstep B1.out B)
      clear B B1
      by_cases h50 : t + 1 ≤ 50
      · have hR := Lib.hid (hg.out (by omega))
        have hgt : ¬ 50 < t + 1 := by omega
        go_wp2_with fail
        refine (sn1 _ B3.out).mono ?_
        rintro e w4 ⟨rfl, B⟩
        have B4 := Lib.hid (bstep B3.out B)
        clear B B3
        go_wp2_with fail
        go_ret
        exact ⟨by rw [hR.out]; rfl, B4.out⟩
      · have hR := Lib.hid (hf.out (by omega))
        have hgt : 50 < t + 1 := by omega
        go_wp2_with fail
        go_ret
        exact ⟨by rw [hR.out]; rfl, B3.out⟩
    · have hpb : inB p 0 4 = false := by simpa [inB] using hp
      have hR := Lib.hid (nextR_bad2 (E := E) (p := p) hp)
      rw [hpb]
      go_wp2_with fail
      go_ret
      exact ⟨by rw [hR.out]; rfl, B1.out⟩
end Go.Proofs.YtlipmjbeiiifkaaDoor

/- The program's next number: a range over the book. -/
namespace Go.Proofs.YtlipmjbeiiifkaaDoor
open Go.RowKit
set_option linter.unusedVariables false

theorem id_resN (tm : Array Value) (w : World) (b : Nat) (x y : Value) (t : TypeId) (h2 : tm[4]? = some (.pointer (some ⟨b, 0, none⟩))) (h : w.heap[b]? = some (.cells #[x, y] t (0, 0))) :
    (results Tryd.f34 tm).run Tryd.prog w = .ok (.agg #[x, y]) w := by
  obtain ⟨t0, t1, _, _⟩ := blk2 h
  simp [results, Tryd.results34, go_sem, h2, t0, t1]

set_option maxRecDepth 100000 in
set_option maxHeartbeats 4000000 in
/-- THE NEXT ID OF A REPLICA, BY A LOG's BOOK. -/
theorem inx_book (bb : Nat) (E : List En) (U : Nat → Value) (p : Int) (w : World) (hv : logB E = true) (h : Book w bb E.length (mapE E U E.length)) :
    Calls Tryd.prog 34 #[.map (some bb), .int .i64 p] w fun e w' => e = .returned (.agg #[.int .i64 p, .int .i64 (topF (ofR p) (fun x => x.id.2) E + 1)]) ∧ Below w.heap.size w w' := by
  have B0 := Lib.hid ((Below.refl w.heap.size w).alloc (Nat.le_refl _) (.cells #[.int .i64 0, .int .i64 0] 29))
  have O0 := Lib.hid (heap_alloc_new w (.cells #[.int .i64 0, .int .i64 0] 29))
  have hbb := h.lt
  have hB := Lib.hid (h.up B0.out hbb)
  have hv := Lib.hid hv
  clear h
  go_enter Tryd.func34, Tryd.ntmps34
  go_wp2_with (at_range; refine bk_range rfl _ 60 rfl _ Tryd.underlying60 hv.out rfl hB.out ?_; intro w0 cnt0 hr0 hg0 hs0)
  go_frame
  have B1 := Lib.hid (below_fresh B0.out hg0)
  have O1 := Lib.hid ((hg0.block w.heap.size (by simp) (by simp)).trans O0.out)
  have hr0 := Lib.hid hr0
  have hrs : (w.alloc (.cells #[.int .i64 0, .int .i64 0] 29)).heap.size = w.heap.size + 1 := by simp
  rw [hrs] at hr0 ⊢
  clear hg0 hs0 B0 O0 hB hrs
  go_loopw [5] (fun g wr => ∃ (V : List Nat) (cnt : Nat) (gi : Int), g = .int .i64 gi ∧ 0 ≤ gi ∧ gi ≤ 50 ∧ Hid (BkR wr bb (w.heap.size + 1) E U V cnt) ∧ Hid (TopP E (fun j => j ∈ V) (ofR p) (fun x => x.id.2) gi) ∧ Hid (wr.heap[w.heap.size]? = some (.cells #[.int .i64 0, .int .i64 0] 29 (0, 0))) ∧ Hid (Below w.heap.size w wr)) (fun _ wr => wr.rangeLeft bb (w.heap.size + 1))
  case atStart => exact ⟨[], cnt0, 0, rfl, by omega, by omega, hr0, Lib.hid (TopP.start E _ (fun k hk => by simp at hk) _ _), O1, B1⟩
  case round =>
    clear hr0 O1 B1
    obtain ⟨V, cnt, gi, rfl, hg0, hg50, hBk, hT, hO, hnx⟩ := hrel
    go_wp2_with (at_next; refine bk_next rfl _ rfl hv.out rfl hBk.out ?_ ?_)
    · intro hall
      have e := Lib.hid (hT.out.done hall)
      obtain ⟨o0, o1, f0, f1⟩ := blk2 hO.out
      have hol := lt_of_heap hO.out
      clear hBk hT
      go_wp2_with fail
      have hfin := heap_setCell_same _ w.heap.size 1 _ _ (.int .i64 (gi + 1)) (heap_setCell_same _ w.heap.size 0 _ _ (.int .i64 p) hO.out)
      simp only [List.setIfInBounds_toArray, List.set_cons_zero, List.set_cons_succ] at hfin
      refine bodyPost_ret (id_resN _ _ _ _ _ _ rfl hfin) rfl ⟨?_, (hnx.out.setCell (p := ⟨w.heap.size, 0, none⟩) (Nat.le_refl _) _).setCell (p := ⟨w.heap.size, 1, none⟩) (Nat.le_refl _) _⟩
      rw [← e.out]
    · intro k w1 cnt1 hk hBk1 hlt hg1 hs1 hen
      have hnum := log_num hv.out hk
      have hnum : 0 ≤ (E.getD k en0).id.1 ∧ (E.getD k en0).id.1 ≤ 4 ∧ 1 ≤ (E.getD k en0).id.2 ∧ (E.getD k en0).id.2 ≤ 50 := by simpa [okP, idB] using hnum
      have hO1 := Lib.hid ((hg1.block w.heap.size (lt_of_heap hO.out) (by simp)).trans hO.out)
      have B1 := Lib.hid (below_turned hnx.out hg1 (Nat.le_succ _))
      have hl := hBk.out.left
      have hBk1 := Lib.hid hBk1
      obtain ⟨x, hx⟩ : ∃ x, Hid (E.getD k en0 = x) := ⟨_, Lib.hid rfl⟩
      have Th := Lib.hid (fun hf => hT.out.hit (S' := fun j => j ∈ V ++ [k]) hk (fun j => by simp) hf)
      have Tm := Lib.hid (fun hf => hT.out.miss (S' := fun j => j ∈ V ++ [k]) (k := k) (fun j => by simp) hf)
      simp only [← List.getD_eq_getElem?_getD] at hen ⊢
      rw [hx.out] at hen hnum Th Tm ⊢
      have BA := (Below.refl w1.heap.size w1).alloc (Nat.le_refl _) (.cells #[.int .i64 x.id.1, .int .i64 x.id.2] 29)
      replace hBk1 := Lib.hid (hBk1.out.kept BA)
      replace hO1 := Lib.hid ((BA.block _ (lt_of_heap hO1.out)).trans hO1.out)
      replace B1 := Lib.hid (bstep B1.out BA)
      unfold idv2 env at hen
      unfold idv2 env
      clear hO hnx hT hBk hg1 BA
      by_cases hp : x.id.1 = p
      · have T := Lib.hid (Th.out (by unfold ofR; simpa using hp))
        rw [hp] at hBk1 hO1 B1
        by_cases hle : gi ≤ x.id.2
        · have hmax : max gi x.id.2 = x.id.2 := Int.max_eq_right hle
          rw [show max gi ((fun x : En => x.id.2) x) = x.id.2 from hmax] at T
          go_wp2_with fail
          go_roundw
          case rel => exact ⟨_, cnt1, x.id.2, by first | rfl | (congr 1; omega), by omega, by omega, hBk1, T, hO1, B1⟩
          case measure => rw [hBk1.out.left, hl]; omega
        · have hmax : max gi x.id.2 = gi := Int.max_eq_left (by omega)
          rw [show max gi ((fun x : En => x.id.2) x) = gi from hmax] at T
          go_wp2_with fail
          go_roundw
          case rel => exact ⟨_, cnt1, gi, by first | rfl | (congr 1; omega), by omega, by omega, hBk1, T, hO1, B1⟩
          case measure => rw [hBk1.out.left, hl]; omega
      · have T := Lib.hid (Tm.out (by unfold ofR; simpa using hp))
        go_wp2_with fail
        go_roundw
        case rel => exact ⟨_, cnt1, gi, rfl, hg0, hg50, hBk1, T, hO1, B1⟩
        case measure => rw [hBk1.out.left, hl]; omega
end Go.Proofs.YtlipmjbeiiifkaaDoor

/- The program's Propose. -/
namespace Go.Proofs.YtlipmjbeiiifkaaDoor
open Go.RowKit
set_option linter.unusedVariables false

/-- What Propose and PreAccept leave. -/
def PrP (Q : List En × En × Bool) (w : World) (e : Ending) (w' : World) : Prop :=
  ∃ v u S, e = .returned (.tuple #[v, env Q.2.1 u, .bool Q.2.2]) ∧ w.heap.size ≤ S ∧ S ≤ w'.heap.size ∧ OwZ w' w.heap.size S u Q.2.1.deps ∧ LogO w' S w'.heap.size v Q.1 ∧ Below w.heap.size w w'
theorem prP_of {bb : Nat} {Q : List En × En × Bool} {w w' : World} {e : Ending} (h : PpP bb Q w e w') (hbb : w.heap.size ≤ bb) : PrP Q w e w' := by
  obtain ⟨v, u, S, h1, h2, h3, h4, h5, h6⟩ := h
  exact ⟨v, u, S, h1, h2, h3, h4, h5, h6.below hbb⟩
theorem en_resIp (tm : Array Value) (w : World) (b : Nat) (l q : Value) (x0 x1 x2 x3 x4 x5 x6 x7 x8 : Value) (t : TypeId) (h1 : tm[6]? = some l) (h2 : tm[7]? = some (.pointer (some ⟨b, 0, none⟩))) (h3 : tm[8]? = some q) (h : w.heap[b]? = some (.cells #[x0, x1, x2, x3, x4, x5, x6, x7, x8] t (0, 0))) :
    (results Tryd.f11 tm).run Tryd.prog w = .ok (.tuple #[l, .agg #[x0, x1, x2, x3, x4, x5, x6, x7, x8], q]) w := by
  obtain ⟨t0, t1, t2, t3, t4, t5, t6, t7, t8⟩ := nine_cells h
  simp [results, Tryd.results11, go_sem, h1, h2, h3, t0, t1, t2, t3, t4, t5, t6, t7, t8]
section
variable {w wB wc w' : World} {ck ckey cv : Int}
theorem ipr_keep (hb : Below (w.heap.size + 2) wc w') (h : (wc.cell? ⟨w.heap.size, 0, none⟩ = some (.int .i64 ck) ∧ wc.cell? ⟨w.heap.size, 1, none⟩ = some (.int .i64 ckey) ∧ wc.cell? ⟨w.heap.size, 2, none⟩ = some (.int .i64 cv)) ∧ Below (w.heap.size + 1) wB wc) : (w'.cell? ⟨w.heap.size, 0, none⟩ = some (.int .i64 ck) ∧ w'.cell? ⟨w.heap.size, 1, none⟩ = some (.int .i64 ckey) ∧ w'.cell? ⟨w.heap.size, 2, none⟩ = some (.int .i64 cv)) ∧ Below (w.heap.size + 1) wB w' := ⟨⟨(hb.cell (p := ⟨w.heap.size, 0, none⟩) (by show w.heap.size < w.heap.size + 2; omega)).trans h.1.1, (hb.cell (p := ⟨w.heap.size, 1, none⟩) (by show w.heap.size < w.heap.size + 2; omega)).trans h.1.2.1, (hb.cell (p := ⟨w.heap.size, 2, none⟩) (by show w.heap.size < w.heap.size + 2; omega)).trans h.1.2.2⟩, h.2.trans (hb.mono (Nat.le_succ _))⟩
theorem ipr_drew (h : (wc.cell? ⟨w.heap.size, 0, none⟩ = some (.int .i64 ck) ∧ wc.cell? ⟨w.heap.size, 1, none⟩ = some (.int .i64 ckey) ∧ wc.cell? ⟨w.heap.size, 2, none⟩ = some (.int .i64 cv)) ∧ Below (w.heap.size + 1) wB wc) : (wc.drew.cell? ⟨w.heap.size, 0, none⟩ = some (.int .i64 ck) ∧ wc.drew.cell? ⟨w.heap.size, 1, none⟩ = some (.int .i64 ckey) ∧ wc.drew.cell? ⟨w.heap.size, 2, none⟩ = some (.int .i64 cv)) ∧ Below (w.heap.size + 1) wB wc.drew := ⟨h.1, h.2.drew⟩
theorem ipr_sets {x0 x1 x2 x3 x4 x5 x6 x7 x8 : Value} (h : (wc.cell? ⟨w.heap.size, 0, none⟩ = some (.int .i64 ck) ∧ wc.cell? ⟨w.heap.size, 1, none⟩ = some (.int .i64 ckey) ∧ wc.cell? ⟨w.heap.size, 2, none⟩ = some (.int .i64 cv)) ∧ Below (w.heap.size + 1) wB wc) : ((((((((((wc.setCell ⟨(w.heap.size + 1), 0, none⟩ (x0)).setCell ⟨(w.heap.size + 1), 1, none⟩ (x1)).setCell ⟨(w.heap.size + 1), 2, none⟩ (x2)).setCell ⟨(w.heap.size + 1), 3, none⟩ (x3)).setCell ⟨(w.heap.size + 1), 4, none⟩ (x4)).setCell ⟨(w.heap.size + 1), 5, none⟩ (x5)).setCell ⟨(w.heap.size + 1), 6, none⟩ (x6)).setCell ⟨(w.heap.size + 1), 7, none⟩ (x7)).setCell ⟨(w.heap.size + 1), 8, none⟩ (x8)).cell? ⟨w.heap.size, 0, none⟩ = some (.int .i64 ck) ∧ (((((((((wc.setCell ⟨(w.heap.size + 1), 0, none⟩ (x0)).setCell ⟨(w.heap.size + 1), 1, none⟩ (x1)).setCell ⟨(w.heap.size + 1), 2, none⟩ (x2)).setCell ⟨(w.heap.size + 1), 3, none⟩ (x3)).setCell ⟨(w.heap.size + 1), 4, none⟩ (x4)).setCell ⟨(w.heap.size + 1), 5, none⟩ (x5)).setCell ⟨(w.heap.size + 1), 6, none⟩ (x6)).setCell ⟨(w.heap.size + 1), 7, none⟩ (x7)).setCell ⟨(w.heap.size + 1), 8, none⟩ (x8)).cell? ⟨w.heap.size, 1, none⟩ = some (.int .i64 ckey) ∧ (((((((((wc.setCell ⟨(w.heap.size + 1), 0, none⟩ (x0)).setCell ⟨(w.heap.size + 1), 1, none⟩ (x1)).setCell ⟨(w.heap.size + 1), 2, none⟩ (x2)).setCell ⟨(w.heap.size + 1), 3, none⟩ (x3)).setCell ⟨(w.heap.size + 1), 4, none⟩ (x4)).setCell ⟨(w.heap.size + 1), 5, none⟩ (x5)).setCell ⟨(w.heap.size + 1), 6, none⟩ (x6)).setCell ⟨(w.heap.size + 1), 7, none⟩ (x7)).setCell ⟨(w.heap.size + 1), 8, none⟩ (x8)).cell? ⟨w.heap.size, 2, none⟩ = some (.int .i64 cv)) ∧ Below (w.heap.size + 1) wB (((((((((wc.setCell ⟨(w.heap.size + 1), 0, none⟩ (x0)).setCell ⟨(w.heap.size + 1), 1, none⟩ (x1)).setCell ⟨(w.heap.size + 1), 2, none⟩ (x2)).setCell ⟨(w.heap.size + 1), 3, none⟩ (x3)).setCell ⟨(w.heap.size + 1), 4, none⟩ (x4)).setCell ⟨(w.heap.size + 1), 5, none⟩ (x5)).setCell ⟨(w.heap.size + 1), 6, none⟩ (x6)).setCell ⟨(w.heap.size + 1), 7, none⟩ (x7)).setCell ⟨(w.heap.size + 1), 8, none⟩ (x8)) :=
  ⟨⟨cell_set _ (by omega) (cell_set _ (by omega) (cell_set _ (by omega) (cell_set _ (by omega) (cell_set _ (by omega) (cell_set _ (by omega) (cell_set _ (by omega) (cell_set _ (by omega) (cell_set _ (by omega) (h.1.1))))))))), cell_set _ (by omega) (cell_set _ (by omega) (cell_set _ (by omega) (cell_set _ (by omega) (cell_set _ (by omega) (cell_set _ (by omega) (cell_set _ (by omega) (cell_set _ (by omega) (cell_set _ (by omega) (h.1.2.1))))))))), cell_set _ (by omega) (cell_set _ (by omega) (cell_set _ (by omega) (cell_set _ (by omega) (cell_set _ (by omega) (cell_set _ (by omega) (cell_set _ (by omega) (cell_set _ (by omega) (cell_set _ (by omega) (h.1.2.2)))))))))⟩, h.2.trans (put9_below _ _ _ _ _ _ _ _ _ (Nat.le_refl _))⟩
end
theorem joinZ (g : Nat → Nat) : joinF (fun _ => 0) g = g := joinF_zero g
theorem pro_eq {E : List En} {p ck ckey cv : Int} (hv : logB E = true) (hc : cvB ck ckey cv = true) :
    PpR E ⟨(p, topF (ofR p) (fun x => x.id.2) E + 1), 0, 1, ck, ckey, cv, max 0 (topE (clsE E (p, topF (ofR p) (fun x => x.id.2) E + 1) ck ckey) + 1), idsO (joinF (fun _ => 0) (mask (idsE (clsE E (p, topF (ofR p) (fun x => x.id.2) E + 1) ck ckey))))⟩ = propR E p ck ckey cv := by
  unfold propR proE
  rw [if_pos hv, joinF_zero, idsO_mask (cls_srt hv _ ck ckey), show max 0 (topE (clsE E (p, topF (ofR p) (fun x => x.id.2) E + 1) ck ckey) + 1) = topE (clsE E (p, topF (ofR p) (fun x => x.id.2) E + 1) ck ckey) + 1 by have := (top_rank hv (p, topF (ofR p) (fun x => x.id.2) E + 1) ck ckey).1; omega]
theorem pro_bad {E : List En} {p ck ckey cv : Int} (Y : En) (h1 : Y.k = ck) (h2 : Y.key = ckey) (h3 : Y.v = cv) (hc : cvB ck ckey cv = false) : PpR E Y = propR E p ck ckey cv := by
  have a1 : enB Y = false := by
    cases e : enB Y with
    | false => rfl
    | true => have := (enB_of e).2.2.2.2.2.2; rw [h1, h2, h3, hc] at this; cases this
  have a2 : enB (proE E p ck ckey cv) = false := by
    cases e : enB (proE E p ck ckey cv) with
    | false => rfl
    | true => have := (enB_of e).2.2.2.2.2.2; unfold proE at this; dsimp only at this; rw [hc] at this; cases this
  rw [ppR_bad a1]
  unfold propR
  split
  · rw [ppR_bad a2]
  · rfl

set_option maxRecDepth 100000 in
set_option maxHeartbeats 8000000 in
theorem iprop_any (u : Value) (E : List En) (p ck ckey cv : Int) (w : World) (hT : TabIn w) (h : Ens w u E) :
    Calls Tryd.prog 11 #[u, .int .i64 p, .agg #[.int .i64 ck, .int .i64 ckey, .int .i64 cv]] w (PrP (propR E p ck ckey cv) w) := by
  have A0 := Lib.hid ((Below.heap_alloc _ (.cells #[.int .i64 0, .int .i64 0, .int .i64 0, .int .i64 0, .int .i64 0, .int .i64 0, .int .i64 0, .int .i64 0, .slice none 0 0] 32) _ (by simp)).trans (heap_alloc_new w (.cells #[.int .i64 ck, .int .i64 ckey, .int .i64 cv] 25)))
  have R0 := Lib.hid (heap_alloc_at (w.alloc (.cells #[.int .i64 ck, .int .i64 ckey, .int .i64 cv] 25)) (.cells #[.int .i64 0, .int .i64 0, .int .i64 0, .int .i64 0, .int .i64 0, .int .i64 0, .int .i64 0, .int .i64 0, .slice none 0 0] 32) (w.heap.size + 1) (by simp))
  have D0 := Lib.hid (((Below.refl w.heap.size w).alloc (Nat.le_refl _) (.cells #[.int .i64 ck, .int .i64 ckey, .int .i64 cv] 25)).alloc (by simp) (.cells #[.int .i64 0, .int .i64 0, .int .i64 0, .int .i64 0, .int .i64 0, .int .i64 0, .int .i64 0, .int .i64 0, .slice none 0 0] 32))
  obtain ⟨U, hU, bk⟩ := ibook_any u E _ (h.up D0.out (Nat.le_refl _))
  have hU := Lib.hid hU
  have hT := Lib.hid (TabIn.up hT D0.out (Nat.le_refl _))
  unfold BkPost at bk
  obtain ⟨q, hq⟩ : ∃ q, Hid (logB E = q) := ⟨_, Lib.hid rfl⟩
  rw [hq.out] at bk
  clear h
  go_enter Tryd.func11, Tryd.ntmps11
  go_wp2_with fail
  refine bk.mono ?_
  rintro e wB ⟨hcase, B⟩
  have hs0 : w.heap.size + 2 ≤ ((w.alloc (.cells #[.int .i64 ck, .int .i64 ckey, .int .i64 cv] 25)).alloc (.cells #[.int .i64 0, .int .i64 0, .int .i64 0, .int .i64 0, .int .i64 0, .int .i64 0, .int .i64 0, .int .i64 0, .slice none 0 0] 32)).heap.size := by simp
  have A1 := Lib.hid (bblk B (lt_of_heap A0.out) A0.out)
  have R1 := Lib.hid (bblk B (lt_of_heap R0.out) R0.out)
  have D1 := Lib.hid (bstep D0.out B)
  replace hU := Lib.hid (fun k (hk : k < E.length) => (hU.out k hk).up B (Nat.le_refl _))
  replace hT := Lib.hid (TabIn.up hT.out B (Nat.le_refl _))
  clear B A0 R0 D0 bk
  rcases hcase with ⟨hqt, bb, hbb0, rfl, hB⟩ | ⟨hqf, rfl⟩
  · subst hqt
    have hbb : w.heap.size + 2 ≤ bb := Nat.le_trans hs0 hbb0
    clear hs0 hbb0
    obtain ⟨c0, c1, c2, _, _, _⟩ := blk3 A1.out
    have H0 := Lib.hid (show (wB.cell? ⟨w.heap.size, 0, none⟩ = some (.int .i64 ck) ∧ wB.cell? ⟨w.heap.size, 1, none⟩ = some (.int .i64 ckey) ∧ wB.cell? ⟨w.heap.size, 2, none⟩ = some (.int .i64 cv)) ∧ Below (w.heap.size + 1) wB wB from ⟨⟨c0, c1, c2⟩, Below.refl _ _⟩)
    have hB := Lib.hid hB
    have nx := fun W (hB : Book W bb E.length (mapE E U E.length)) => inx_book bb E U p W hq.out hB
    obtain ⟨num, hnum⟩ : ∃ n, Hid (topF (ofR p) (fun x => x.id.2) E + 1 = n) := ⟨_, Lib.hid rfl⟩
    rw [hnum.out] at nx
    have pr : ∀ W, Book W bb E.length (mapE E U E.length) → (∀ k, k < E.length → Ids W (U k) (E.getD k en0).deps) → TabIn W → Calls Tryd.prog 33 #[.map (some bb), .agg #[.int .i64 p, .int .i64 num, .int .i64 0, .int .i64 ck, .int .i64 ckey, .int .i64 cv, .int .i64 0, .int .u64 0, .int .u64 0, .int .u64 0, .int .u64 0, .int .u64 0]] W (PpP bb (propR E p ck ckey cv) W) := fun W hB hU hT => by
      cases hc : cvB ck ckey cv with
      | true =>
        have := ipropose_any bb E U (p, num) 0 ck ckey cv 0 ck ckey (fun _ => 0) W hq.out (fun k1 key1 v1 h => by unfold clB; rw [h, hc]; rfl) hB hU (fun _ => by omega) hT
        rw [← hnum.out, pro_eq hq.out hc, hnum.out] at this
        exact this
      | false =>
        have := ipropose_any bb E U (p, num) 0 ck ckey cv 0 3 0 (fun _ => 0) W hq.out (fun k1 key1 v1 h => by unfold clB; rw [h, hc]; simp [kcB]) hB hU (fun _ => by omega) hT
        rw [pro_bad _ rfl rfl rfl hc] at this
        exact this
    obtain ⟨⟨N, Y, q⟩, hQ⟩ : ∃ Q, Hid (propR E p ck ckey cv = Q) := ⟨_, Lib.hid rfl⟩
    rw [hQ.out] at pr
    unfold PpP at pr
    dsimp only at pr
    have R0 := R1
    clear R1 A1 c0 c1 c2
    go_upto_region 4 with fail
    go_region_held3 (fun w' => (w'.cell? ⟨w.heap.size, 0, none⟩ = some (.int .i64 ck) ∧ w'.cell? ⟨w.heap.size, 1, none⟩ = some (.int .i64 ckey) ∧ w'.cell? ⟨w.heap.size, 2, none⟩ = some (.int .i64 cv)) ∧ Below (w.heap.size + 1) wB w') (first | (with_reducible assumption) | (with_reducible exact ipr_sets (by assumption)) | (with_reducible exact ipr_drew H0.out) | (with_reducible exact ipr_drew (by assumption)) | (with_reducible exact ipr_keep (by assumption) (by assumption)) | (with_reducible exact ipr_keep (by assumption) (ipr_drew (by assumption))))
      (first | (go_at_call 34; (first | (with_reducible refine (nx _ hB.out).mono ?_) | (with_reducible refine (nx _ (hB.out.up (Below.drew (Below.refl _ _)) hB.out.lt)).mono ?_)); rintro e w' ⟨rfl, hb⟩; have hbz : Below wB.heap.size wB w' := (by first | exact hb | exact (Below.drew (Below.refl _ _)).trans hb); have hb2 : Below (w.heap.size + 2) _ w' := hb.mono (by have := lt_of_heap R0.out; exact this); replace R0 := Lib.hid (bblk hbz (lt_of_heap R0.out) R0.out); replace hB := Lib.hid (hB.out.up hbz hB.out.lt); replace hU := Lib.hid (fun k (hk : k < E.length) => (hU.out k hk).up hbz (Nat.le_refl _)); replace hT := Lib.hid (TabIn.up hT.out hbz (Nat.le_refl _)))
             | (go_at_call 33; (first | (with_reducible refine (pr _ hB.out hU.out hT.out).mono ?_) | (with_reducible refine (pr _ (hB.out.up (Below.drew (Below.refl _ _)) hB.out.lt) (fun k hk => (hU.out k hk).up (Below.drew (Below.refl _ _)) (Nat.le_refl _)) (TabIn.up hT.out (Below.drew (Below.refl _ _)) (Nat.le_refl _))).mono ?_)); rintro e w9 ⟨v9, u9, S9, rfl, hS1, hS2, O9, L9, hk⟩; obtain ⟨ga, gc, rfl, _⟩ := L9.shape; obtain ⟨va9, vn9, vc9, rfl⟩ : ∃ ua un uc, u9 = .slice ua un uc := (by obtain ⟨a, c, e, _⟩ := O9.read; exact ⟨a, _, c, e⟩); have hz3 := lt_of_heap R0.out; have hzz := Nat.le_trans (lt_of_heap R0.out) hS1; have hb3 : Below (w.heap.size + 2) _ w9 := (hk.mono (by have := lt_of_heap R0.out; exact this)).below hbb; replace R0 := Lib.hid (hb3.block (w.heap.size + 1) (by omega) |>.trans R0.out); have O9 := Lib.hid O9; have L9 := Lib.hid L9; have hk := Lib.hid hk; obtain ⟨⟨z0, z1, z2, z3, z4, z5, z6, z7, z8⟩, ⟨f0, f1, f2, f3, f4, f5, f6, f7, f8⟩, zl⟩ := nine_all R0.out; unfold env))
    have X9 := put9_exc (w := w9) (b := w.heap.size + 1) (.int .i64 Y.id.1) (.int .i64 Y.id.2) (.int .i64 Y.bal) (.int .i64 Y.st) (.int .i64 Y.k) (.int .i64 Y.key) (.int .i64 Y.v) (.int .i64 Y.seq) (.slice va9 vn9 vc9)
    have hs9 := X9.size
    have Oz := Lib.hid ((O9.out.apart X9 (fun c h1 h2 e => by have : w.heap.size + 1 < c := Nat.lt_of_lt_of_le hz3 h1; omega)).wide (B' := w.heap.size) (Nat.le_of_lt (Nat.lt_of_le_of_lt (Nat.le_succ _) hz3)) (Nat.le_refl _))
    have Lz := Lib.hid ((L9.out.apart X9 (fun c h1 h2 e => by omega)).wide (Nat.le_refl _) hs9 (Nat.le_refl _))
    have e2 := hb2.mono (show w.heap.size ≤ w.heap.size + 2 by omega)
    have e3 := hb3.mono (show w.heap.size ≤ w.heap.size + 2 by omega)
    have D2 : Below w.heap.size w w' := by first | exact D1.out.trans e2 | exact D1.out.drew.trans e2
    have D3 : Below w.heap.size w w9 := by first | exact D2.trans e3 | exact D2.drew.trans e3
    have D9 := Lib.hid (D3.trans (X9.to (B := w.heap.size) (by have := D3.size; omega) (fun c e => by omega)))
    go_wp2_with fail
    refine bodyPost_ret (en_resIp _ _ _ _ _ _ _ _ _ _ _ _ _ _ _ rfl rfl rfl (put9_at _ _ _ _ _ _ _ _ _ R0.out)) rfl ?_
    rw [hQ.out]
    exact ⟨_, _, S9, rfl, by omega, Nat.le_trans hS2 hs9, Oz.out, Lz.out, D9.out⟩
  · subst hqf
    clear hs0
    have hPP := Lib.hid (pp_fail (bb := w.heap.size) (Keep.of_below D1.out) (Nat.le_succ _) R1.out)
    have hQ := Lib.hid (show propR E p ck ckey cv = ([], en0, false) from if_neg (by rw [hq.out]; simp))
    obtain ⟨⟨z0, z1, z2, z3, z4, z5, z6, z7, z8⟩, ⟨f0, f1, f2, f3, f4, f5, f6, f7, f8⟩, zl⟩ := nine_all R1.out
    clear A1 hU hT
    go_wp2_with fail
    refine bodyPost_ret (en_resIp _ _ _ _ _ _ _ _ _ _ _ _ _ _ _ rfl rfl rfl hPP.out.2) rfl ?_
    rw [hQ.out]
    exact prP_of hPP.out.1 (Nat.le_refl _)
end Go.Proofs.YtlipmjbeiiifkaaDoor
