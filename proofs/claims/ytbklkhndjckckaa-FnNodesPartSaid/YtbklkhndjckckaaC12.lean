/- Texts laid together. -/
import Derived.Test.YtbklkhndjckckaaC10
import Derived.Test.YtbklkhndjckckaaC11
/- The model's l5Has, l5Ready and NodesReady. -/
namespace Go.Proofs.Ytbklkhndjckckaa
open Go.RowKit
set_option linter.unusedVariables false

theorem okI_at {N : List Nd} (hv : nodB N = true) {k : Nat} (hk : k < N.length) {a : Pid} (ha : (N.getD k nd0).id = a) : OkI N a ↔ ∀ d ∈ (N.getD k nd0).deps, d ∈ idsN N := by
  constructor
  · intro h d hd; exact h _ (getD_mem hk) ha d hd
  · intro h x hx e d hd
    rw [getD_uniq hv hx (getD_mem hk) (e.trans ha.symm)] at hd
    exact h d hd
theorem okI_row {N : List Nd} {L : List Pid} (h : ∀ j, j < L.length → L.getD j nop ∈ idsN N) : ∀ d ∈ L, d ∈ idsN N := by
  intro d hd
  obtain ⟨j, hj, rfl⟩ := List.getElem_of_mem hd
  have := h j hj
  rw [List.getD_eq_getElem?_getD, List.getElem?_eq_getElem hj] at this; exact this
theorem getD_memQ {L : List Pid} {j : Nat} (hj : j < L.length) : L.getD j nop ∈ L := by
  rw [List.getD_eq_getElem?_getD, List.getElem?_eq_getElem hj]; exact List.getElem_mem hj
/-- A readable slice that is not empty. -/
theorem Ids.some {w : World} {a : Option Addr} {n c : Nat} {C : List Pid} (h : Ids w (.slice a n c) C) (hn : 0 < C.length) : n = C.length ∧ C.length ≤ c ∧ ∃ b off, a = some ⟨b, off, none⟩ ∧ b < w.heap.size ∧ ∀ i, i < C.length → w.cell? ⟨b, off + i * 2, none⟩ = some (.int .i64 (C.getD i nop).1) ∧ w.cell? ⟨b, off + i * 2 + 1, none⟩ = some (.int .i64 (C.getD i nop).2) := by
  obtain ⟨a', c', e, h1, h2, h3⟩ := h
  injection e with e1 e2 e3
  subst e1; subst e3
  rcases h3 with h3 | ⟨b, off, h4, h5, h6⟩
  · omega
  · exact ⟨e2, h1, b, off, h4, h5, h6⟩
theorem Ids.len {w : World} {a : Option Addr} {n c : Nat} {C : List Pid} (h : Ids w (.slice a n c) C) : n = C.length ∧ C.length ≤ c := by
  obtain ⟨a', c', e, h1, h2, h3⟩ := h
  injection e with e1 e2 e3
  subst e3; exact ⟨e2, h1⟩

set_option maxRecDepth 100000 in
set_option maxHeartbeats 4000000 in
theorem sok_at (g off cp : Nat) (N : List Nd) (U : Us) (x y : Int) (w : World) (hv : nodB N = true) (hA : NdAt w g off N U) (hcp : N.length ≤ cp) (hin : (x, y) ∈ idsN N) :
    Calls Try.prog 60 #[.slice (some ⟨g, off, none⟩) N.length cp, .agg #[.int .i64 x, .int .i64 y]] w fun e w' => (∃ b : Bool, e = .returned (.bool b) ∧ (b = true ↔ OkI N (x, y))) ∧ Below w.heap.size w w' := by
  have hNl := (nod_of hv).1
  have sat := fun p q W (hb : Below w.heap.size w W) => sat_at g off cp N p q W (Nat.lt_of_lt_of_le hA.lt hb.size) (by omega) (hA.up hb (Nat.le_refl _)).ins
  have hv := Lib.hid hv
  have hA := Lib.hid hA
  obtain ⟨nn, hnn⟩ : ∃ n, Hid (N.length = n) := ⟨_, Lib.hid rfl⟩
  rw [hnn.out] at sat hNl hcp ⊢
  have D0 := Lib.hid ((Below.refl w.heap.size w).alloc (Nat.le_refl _) (.cells #[.int .i64 x, .int .i64 y] 31))
  go_enter Try.func60, Try.ntmps60
  go_wp2_with fail
  refine (sat x y _ D0.out).mono ?_
  rintro e w1 ⟨⟨z, rfl, hz⟩, B⟩
  have D1 := Lib.hid (bstep D0.out B)
  clear B D0
  rcases hz with ⟨rfl, hno⟩ | ⟨k, rfl, hk, hki⟩
  · exact absurd hin hno
  · have hkN := hk
    rw [hnn.out] at hk
    have hokI := Lib.hid (okI_at hv.out hkN hki)
    have hA1 := Lib.hid (hA.out.up D1.out (Nat.le_refl _))
    have hids := hA1.out.ids k hkN
    obtain ⟨_, _, _, x3⟩ := hA1.out.cell k hkN
    have hgl := hA1.out.lt
    have hdl := nod_dlen hv.out hkN
    obtain ⟨ua, hua⟩ : ∃ u, U k = u := ⟨_, rfl⟩
    rw [hua] at hids x3
    obtain ⟨ua, un, uc⟩ := ua
    dsimp only at hids x3
    obtain ⟨L, hL⟩ : ∃ L, Hid ((N.getD k nd0).deps = L) := ⟨_, Lib.hid rfl⟩
    rw [hL.out] at hids hdl hokI
    obtain ⟨rfl, hul⟩ := hids.len
    have hids := Lib.hid hids
    obtain ⟨n, hn⟩ : ∃ n, Hid (L.length = n) := ⟨_, Lib.hid rfl⟩
    rw [hn.out] at x3 hdl hul hids
    clear hki hkN hin
    go_wp2_with fail
    go_loopw [6] (fun i wr => ∃ k : Nat, k ≤ n ∧ i = .int .i64 k ∧ Hid (∀ j, j < k → L.getD j nop ∈ idsN N) ∧ Hid (Below w1.heap.size w1 wr)) (fun i _ => n - (intOf i).toNat)
    case atStart => exact ⟨0, Nat.zero_le _, rfl, Lib.hid fun j hj => absurd hj (Nat.not_lt_zero _), Lib.hid (Below.refl _ _)⟩
    case round =>
      obtain ⟨j, hj, rfl, hd, hB⟩ := hrel
      by_cases hlt : j < n
      · obtain ⟨-, -, b, of, rfl, hbl, hcs⟩ := hids.out.some (by rw [hn.out]; omega)
        obtain ⟨c0, c1⟩ := hcs j (by rw [hn.out]; exact hlt)
        have c0 := (hB.out.cell (p := ⟨b, of + j * 2, none⟩) hbl).trans c0
        have c1 := (hB.out.cell (p := ⟨b, of + j * 2 + 1, none⟩) hbl).trans c1
        obtain ⟨d, hdd⟩ : ∃ d, Hid (L.getD j nop = d) := ⟨_, Lib.hid rfl⟩
        rw [hdd.out] at c0 c1
        obtain ⟨p, q⟩ := d
        dsimp only at c0 c1
        clear hcs x3
        have DW := Lib.hid (bstep D1.out hB.out)
        go_wp2_with fail
        refine (sat p q _ DW.out).mono ?_
        rintro e w3 ⟨⟨z, rfl, hz⟩, B⟩
        have hB3 := Lib.hid (bstep hB.out B)
        have D3 := Lib.hid (bstep DW.out B)
        clear B DW c0 c1
        rcases hz with ⟨rfl, hno⟩ | ⟨k', rfl, hk', hki'⟩
        · go_wp2_with fail
          go_ret
          exact ⟨⟨false, rfl, ⟨fun h => (nomatch h), fun h => absurd (by rw [← hdd.out]; exact hokI.out.1 h _ (getD_memQ (by rw [hn.out]; exact hlt))) hno⟩⟩, D3.out⟩
        · have kz : ¬ ((k' : Int) < 0) := by omega
          have R := Lib.hid (up_to hd.out (show L.getD j nop ∈ idsN N by rw [hdd.out]; exact mem_idsN.2 ⟨k', hk', hki'⟩))
          clear hk' hki'
          go_wp2_with fail
          go_roundw
          case rel => exact ⟨j + 1, by omega, by go_num, R, hB3⟩
          case measure => simp [intOf]; omega
      · obtain rfl : j = n := by omega
        have DW := Lib.hid (bstep D1.out hB.out)
        go_wp2_with fail
        go_ret
        exact ⟨⟨true, rfl, ⟨fun _ => hokI.out.2 (okI_row fun i hi => hd.out i (by rw [← hn.out]; exact hi)), fun _ => rfl⟩⟩, DW.out⟩

theorem rdI_parts {N : List Nd} {a : Pid} : RdI N a ↔ OkI N a ∧ ∀ b, Rp (EI N) a b → OkI N b := by
  constructor
  · intro h; exact ⟨h a (.refl a), fun b hb => h b hb.rt⟩
  · rintro ⟨h1, h2⟩ b hb
    rcases hb.cases with e | e
    · subst e; exact h1
    · exact h2 b e

set_option maxRecDepth 100000 in
set_option maxHeartbeats 4000000 in
/-- THE MODEL'S READINESS of a node. -/
theorem srdy_at (g off cp : Nat) (N : List Nd) (U : Us) (x y : Int) (w : World) (hv : nodB N = true) (hA : NdAt w g off N U) (hcp : N.length ≤ cp) (hin : (x, y) ∈ idsN N) :
    Calls Try.prog 35 #[.slice (some ⟨g, off, none⟩) N.length cp, .agg #[.int .i64 x, .int .i64 y]] w fun e w' => (∃ b : Bool, e = .returned (.bool b) ∧ (b = true ↔ RdI N (x, y))) ∧ Below w.heap.size w w' := by
  have sr := fun p q W (hb : Below w.heap.size w W) => srch_at g off cp N U p q W hv (hA.up hb (Nat.le_refl _)) hcp
  have so := fun p q W (hb : Below w.heap.size w W) (hi : (p, q) ∈ idsN N) => sok_at g off cp N U p q W hv (hA.up hb (Nat.le_refl _)) hcp hi
  have hsl : (selP N (Rp (EI N) (x, y))).length ≤ 12 := Nat.le_trans (selP_len N _) (nod_of hv).1
  have hm : Hid (∀ b, b ∈ selP N (Rp (EI N) (x, y)) ↔ Rp (EI N) (x, y) b) := Lib.hid fun b => ⟨fun h => (mem_selP.1 h).2, fun h => mem_selP.2 ⟨rp_r h, h⟩⟩
  have hrd := Lib.hid (rdI_parts (N := N) (a := (x, y)))
  have hin := Lib.hid hin
  obtain ⟨nn, hnn⟩ : ∃ n, Hid (N.length = n) := ⟨_, Lib.hid rfl⟩
  rw [hnn.out] at sr so ⊢
  have D0 := Lib.hid ((Below.refl w.heap.size w).alloc (Nat.le_refl _) (.cells #[.int .i64 x, .int .i64 y] 31))
  have hI := Lib.hid (heap_alloc_new w (.cells #[.int .i64 x, .int .i64 y] 31))
  have so1 := fun p q W (hb : Below w.heap.size w W) (hi : Hid ((p, q) ∈ idsN N)) => so p q W hb hi.out
  clear hA hcp so
  go_enter Try.func35, Try.ntmps35
  go_wp2_with fail
  refine (sr x y _ D0.out).mono ?_
  rintro e w1 ⟨b, v, hb, rfl, hO, B⟩
  have D1 := Lib.hid (bstep D0.out B)
  have hI := Lib.hid (bblk B (by simp) hI.out)
  generalize selP N (Rp (EI N) (x, y)) = L at hO hsl hm
  obtain ⟨oc, rfl, hoc⟩ := hO.shape
  have hO := Lib.hid hO
  clear B D0
  obtain ⟨n, hn⟩ : ∃ n, Hid (L.length = n) := ⟨_, Lib.hid rfl⟩
  rw [hn.out] at hoc hsl ⊢
  have hbl := hO.out.lt
  have hil := lt_of_heap hI.out
  go_wp2_with fail
  go_loopw [6] (fun i wr => ∃ k : Nat, k ≤ n ∧ i = .int .i64 k ∧ Hid (∀ j, j < k → OkI N (L.getD j nop)) ∧ Hid (Below w1.heap.size w1 wr)) (fun i _ => n - (intOf i).toNat)
  case atStart => exact ⟨0, Nat.zero_le _, rfl, Lib.hid fun j hj => absurd hj (Nat.not_lt_zero _), Lib.hid (Below.refl _ _)⟩
  case round =>
    obtain ⟨j, hj, rfl, hd, hB⟩ := hrel
    have DW := Lib.hid (bstep D1.out hB.out)
    by_cases hlt : j < n
    · obtain ⟨c0, c1⟩ := hO.out.cell j (by rw [hn.out]; exact hlt)
      have c0 := (hB.out.cell (p := ⟨b, j * 2, none⟩) hbl).trans c0
      have c1 := (hB.out.cell (p := ⟨b, j * 2 + 1, none⟩) hbl).trans c1
      have hr := (hm.out _).1 (getD_memQ (L := L) (j := j) (by rw [hn.out]; exact hlt))
      obtain ⟨d, hdd⟩ : ∃ d, Hid (L.getD j nop = d) := ⟨_, Lib.hid rfl⟩
      rw [hdd.out] at c0 c1 hr
      obtain ⟨p, q⟩ := d
      dsimp only at c0 c1
      have hr := Lib.hid hr
      have hin2 := Lib.hid (rp_r hr.out)
      go_wp2_with fail
      refine (so1 p q _ DW.out hin2).mono ?_
      rintro e w3 ⟨⟨z, rfl, hz⟩, B⟩
      have hB3 := Lib.hid (bstep hB.out B)
      have D3 := Lib.hid (bstep DW.out B)
      have hz := Lib.hid hz
      clear B DW c0 c1
      cases z with
      | false =>
        go_wp2_with fail
        go_ret
        refine ⟨⟨false, rfl, ⟨fun h => (nomatch h), fun h => ?_⟩⟩, D3.out⟩
        exact hz.out.2 ((hrd.out.1 h).2 _ hr.out)
      | true =>
        have R := Lib.hid (up_to hd.out (show OkI N (L.getD j nop) by rw [hdd.out]; exact hz.out.1 rfl))
        clear hz
        go_wp2_with fail
        go_roundw
        case rel => exact ⟨j + 1, by omega, by go_num, R, hB3⟩
        case measure => simp [intOf]; omega
    · obtain rfl : j = n := by omega
      obtain ⟨i1, i2, _, _⟩ := blk2 (bblk hB.out (by omega) hI.out)
      have hil2 := Nat.lt_of_lt_of_le hil hB.out.size
      go_wp2_with fail
      refine (so1 x y _ DW.out hin).mono ?_
      rintro e w3 ⟨⟨z, rfl, hz⟩, B⟩
      have D3 := Lib.hid (bstep DW.out B)
      have hz := Lib.hid hz
      clear B DW
      go_wp2_with fail
      go_ret
      refine ⟨⟨z, rfl, ⟨fun h => hrd.out.2 ⟨hz.out.1 h, fun c hc => ?_⟩, fun h => hz.out.2 (hrd.out.1 h).1⟩⟩, D3.out⟩
      obtain ⟨i, hi, rfl⟩ := List.getElem_of_mem ((hm.out c).2 hc)
      have := hd.out i (by rw [← hn.out]; exact hi)
      rw [List.getD_eq_getElem?_getD, List.getElem?_eq_getElem hi] at this; exact this

set_option maxRecDepth 100000 in
/-- THE MODEL'S NodesReady. -/
theorem sready_any (u : Value) (N : List Nd) (x y : Int) (w : World) (h : Nds w u N) :
    Calls Try.prog 24 #[u, .agg #[.int .i64 x, .int .i64 y]] w fun e w' => e = .returned (.bool (readyR N (x, y))) ∧ Below w.heap.size w w' := by
  have D0 := (Below.refl w.heap.size w).alloc (Nat.le_refl _) (.cells #[.int .i64 x, .int .i64 y] 31)
  have sv := snval_any u N _ (h.up D0 (Nat.le_refl _))
  have hI := Lib.hid (heap_alloc_new w (.cells #[.int .i64 x, .int .i64 y] 31))
  have D0 := Lib.hid D0
  have h := Lib.hid h
  have hrr := Lib.hid (readyR_iff (N := N) (a := (x, y)))
  go_enter Try.func24, Try.ntmps24
  go_wp2_with fail
  refine sv.mono ?_
  rintro e w1 ⟨rfl, B⟩
  have D1 := Lib.hid (bstep D0.out B)
  have hI := Lib.hid (bblk B (by simp) hI.out)
  clear B D0 sv
  cases hv : nodB N with
  | false =>
    have hq : readyR N (x, y) = false := Bool.eq_false_iff.2 fun hh => by have := (hrr.out.1 hh).1; rw [hv] at this; cases this
    have hq := Lib.hid hq
    clear hv
    go_wp2_with fail
    go_ret
    exact ⟨ret_bool hq.out.symm, D1.out⟩
  | true =>
    have hv := Lib.hid hv
    obtain ⟨i1, i2, _, _⟩ := blk2 hI.out
    have hil := lt_of_heap hI.out
    have sa := sat_any u N x y w1 (h.out.up D1.out (Nat.le_refl _))
    go_wp2_with fail
    refine sa.mono ?_
    rintro e w2 ⟨⟨z, rfl, hz⟩, B⟩
    have D2 := Lib.hid (bstep D1.out B)
    have hI := Lib.hid (bblk B hil hI.out)
    obtain ⟨i1, i2, _, _⟩ := blk2 hI.out
    have hil := lt_of_heap hI.out
    clear B D1 sa
    rcases hz with ⟨rfl, hno⟩ | ⟨k, rfl, hk, hki⟩
    · have hq : readyR N (x, y) = false := Bool.eq_false_iff.2 fun hh => hno (hrr.out.1 hh).2.1
      have hq := Lib.hid hq
      go_wp2_with fail
      go_ret
      exact ⟨ret_bool hq.out.symm, D2.out⟩
    · have kz : (0 : Int) ≤ k := by omega
      have hin := mem_idsN.2 ⟨k, hk, hki⟩
      obtain ⟨a, cap, rfl, h1, h2, h3⟩ := h.out
      rcases h3 with h3 | ⟨b, off, rfl, h4, h5⟩
      · omega
      · obtain ⟨U, hA⟩ := NdAt.of h4 h5
        have sr := srdy_at b off cap N U x y w2 hv.out (hA.up D2.out (Nat.le_refl _)) h1 hin
        have hin := Lib.hid hin
        clear h1 h2 h4 h5 hA hk hki
        go_wp2_with fail
        refine sr.mono ?_
        rintro e w3 ⟨⟨z, rfl, hz⟩, B⟩
        have D3 := Lib.hid (bstep D2.out B)
        have hz := Lib.hid hz
        clear B D2 sr
        go_wp2_with fail
        go_ret
        exact ⟨ret_bool (Bool.eq_iff_iff.2 ⟨fun hh => hrr.out.2 ⟨hv.out, hin.out, hz.out.1 hh⟩, fun hh => hz.out.2 (hrr.out.1 hh).2.2⟩), D3.out⟩
end Go.Proofs.Ytbklkhndjckckaa
