/- Texts laid together. -/
import Derived.Test.YtbklkhndjckckaaC08
import Derived.Test.YtbklkhndjckckaaC10
import Derived.Test.YtbklkhndjckckaaC01
import Derived.Test.YtbklkhndjckckaaC02
import Derived.Deep.RegionWith
import Derived.Test.YtbklkhndjckckaaC07
import Derived.Test.YtbklkhndjckckaaProg
import Derived.WalkKit
import Derived.WalkSpells
import Derived.Lib.Hide
import Derived.Deep.QuietTactic
import Derived.BigQuiet
import Derived.Deep.DeepCutAuto
import Derived.OwnWalk
import Derived.Test.YtbklkhndjckckaaRows
import Derived.ProofKit
import Derived.OpenShut
import Derived.ChangeOld
import Derived.Lib.SmallJoins
import Derived.Deep.Slices
/- The model's l5Has, l5Ready and NodesReady. -/
namespace Go.Proofs.Ytbklkhndjckckaa
open Go.RowKit
set_option linter.unusedVariables false

theorem okI_at {N : List Nd} (hv : nodB N = true) {k : Nat} (hk : k < N.length) {a : Pid} (ha : (N.getD k nd0).id = a) : OkI N a ↔ ∀ d ∈ (N.getD k nd0).deps, d ∈ idsN N := by
  constructor
  · intro h d hd; exact h _ (getD_mem hk) ha d hd
  · intro h x hx e d hd
    rw [getD_uniq hv hx (getD_mem hk) (e.trans ha.symm)] at hd
    exact h d hd
theorem okI_row {N : List Nd} {L : List Pid} (h : ∀ j, j < L.length → L.getD j nop ∈ idsN N) : ∀ d ∈ L, d ∈ idsN N := by
  intro d hd
  obtain ⟨j, hj, rfl⟩ := List.getElem_of_mem hd
  have := h j hj
  rw [List.getD_eq_getElem?_getD, List.getElem?_eq_getElem hj] at this; exact this
theorem getD_memQ {L : List Pid} {j : Nat} (hj : j < L.length) : L.getD j nop ∈ L := by
  rw [List.getD_eq_getElem?_getD, List.getElem?_eq_getElem hj]; exact List.getElem_mem hj
/-- A readable slice that is not empty. -/
theorem Ids.some {w : World} {a : Option Addr} {n c : Nat} {C : List Pid} (h : Ids w (.slice a n c) C) (hn : 0 < C.length) : n = C.length ∧ C.length ≤ c ∧ ∃ b off, a = some ⟨b, off, none⟩ ∧ b < w.heap.size ∧ ∀ i, i < C.length → w.cell? ⟨b, off + i * 2, none⟩ = some (.int .i64 (C.getD i nop).1) ∧ w.cell? ⟨b, off + i * 2 + 1, none⟩ = some (.int .i64 (C.getD i nop).2) := by
  obtain ⟨a', c', e, h1, h2, h3⟩ := h
  injection e with e1 e2 e3
  subst e1; subst e3
  rcases h3 with h3 | ⟨b, off, h4, h5, h6⟩
  · omega
  · exact ⟨e2, h1, b, off, h4, h5, h6⟩
theorem Ids.len {w : World} {a : Option Addr} {n c : Nat} {C : List Pid} (h : Ids w (.slice a n c) C) : n = C.length ∧ C.length ≤ c := by
  obtain ⟨a', c', e, h1, h2, h3⟩ := h
  injection e with e1 e2 e3
  subst e3; exact ⟨e2, h1⟩

set_option maxRecDepth 100000 in
set_option maxHeartbeats 4000000 in
theorem sok_at (g off cp : Nat) (N : List Nd) (U : Us) (x y : Int) (w : World) (hv : nodB N = true) (hA : NdAt w g off N U) (hcp : N.length ≤ cp) (hin : (x, y) ∈ idsN N) :
    Calls Try.prog 60 #[.slice (some ⟨g, off, none⟩) N.length cp, .agg #[.int .i64 x, .int .i64 y]] w fun e w' => (∃ b : Bool, e = .returned (.bool b) ∧ (b = true ↔ OkI N (x, y))) ∧ Below w.heap.size w w' := by
  have hNl := (nod_of hv).1
  have sat := fun p q W (hb : Below w.heap.size w W) => sat_at g off cp N p q W (Nat.lt_of_lt_of_le hA.lt hb.size) (by omega) (hA.up hb (Nat.le_refl _)).ins
  have hv := Lib.hid hv
  have hA := Lib.hid hA
  obtain ⟨nn, hnn⟩ : ∃ n, Hid (N.length = n) := ⟨_, Lib.hid rfl⟩
  rw [hnn.out] at sat hNl hcp ⊢
  have D0 := Lib.hid ((Below.refl w.heap.size w).alloc (Nat.le_refl _) (.cells #[.int .i64 x, .int .i64 y] 31))
  go_enter Try.func60, Try.ntmps60
  go_wp2_with fail
  refine (sat x y _ D0.out).mono ?_
  rintro e w1 ⟨⟨z, rfl, hz⟩, B⟩
  have D1 := Lib.hid (bstep D0.out B)
  clear B D0
  rcases hz with ⟨rfl, hno⟩ | ⟨k, rfl, hk, hki⟩
  · exact absurd hin hno
  · have hkN := hk
    rw [hnn.out] at hk
    have hokI := Lib.hid (okI_at hv.out hkN hki)
    have hA1 := Lib.hid (hA.out.up D1.out (Nat.le_refl _))
    have hids := hA1.out.ids k hkN
    obtain ⟨_, _, _, x3⟩ := hA1.out.cell k hkN
    have hgl := hA1.out.lt
    have hdl := nod_dlen hv.out hkN
    obtain ⟨ua, hua⟩ : ∃ u, U k = u := ⟨_, rfl⟩
    rw [hua] at hids x3
    obtain ⟨ua, un, uc⟩ := ua
    dsimp only at hids x3
    obtain ⟨L, hL⟩ : ∃ L, Hid ((N.getD k nd0).deps = L) := ⟨_, Lib.hid rfl⟩
    rw [hL.out] at hids hdl hokI
    obtain ⟨rfl, hul⟩ := hids.len
    have hids := Lib.hid hids
    obtain ⟨n, hn⟩ : ∃ n, Hid (L.length = n) := ⟨_, Lib.hid rfl⟩
    rw [hn.out] at x3 hdl hul hids
    clear hki hkN hin
    go_wp2_with fail
    go_loopw [6] (fun i wr => ∃ k : Nat, k ≤ n ∧ i = .int .i64 k ∧ Hid (∀ j, j < k → L.getD j nop ∈ idsN N) ∧ Hid (Below w1.heap.size w1 wr)) (fun i _ => n - (intOf i).toNat)
    case atStart => exact ⟨0, Nat.zero_le _, rfl, Lib.hid fun j hj => absurd hj (Nat.not_lt_zero _), Lib.hid (Below.refl _ _)⟩
    case round =>
      obtain ⟨j, hj, rfl, hd, hB⟩ := hrel
      by_cases hlt : j < n
      · obtain ⟨-, -, b, of, rfl, hbl, hcs⟩ := hids.out.some (by rw [hn.out]; omega)
        obtain ⟨c0, c1⟩ := hcs j (by rw [hn.out]; exact hlt)
        have c0 := (hB.out.cell (p := ⟨b, of + j * 2, none⟩) hbl).trans c0
        have c1 := (hB.out.cell (p := ⟨b, of + j * 2 + 1, none⟩) hbl).trans c1
        obtain ⟨d, hdd⟩ : ∃ d, Hid (L.getD j nop = d) := ⟨_, Lib.hid rfl⟩
        rw [hdd.out] at c0 c1
        obtain ⟨p, q⟩ := d
        dsimp only at c0 c1
        clear hcs x3
        have DW := Lib.hid (bstep D1.out hB.out)
        go_wp2_with fail
        refine (sat p q _ DW.out).mono ?_
        rintro e w3 ⟨⟨z, rfl, hz⟩, B⟩
        have hB3 := Lib.hid (bstep hB.out B)
        have D3 := Lib.hid (bstep DW.out B)
        clear B DW c0 c1
        rcases hz with ⟨rfl, hno⟩ | ⟨k', rfl, hk', hki'⟩
        · go_wp2_with fail
          go_ret
          exact ⟨⟨false, rfl, ⟨fun h => (nomatch h), fun h => absurd (by rw [← hdd.out]; exact hokI.out.1 h _ (getD_memQ (by rw [hn.out]; exact hlt))) hno⟩⟩, D3.out⟩
        · have kz : ¬ ((k' : Int) < 0) := by omega
          have R := Lib.hid (up_to hd.out (show L.getD j nop ∈ idsN N by rw [hdd.out]; exact mem_idsN.2 ⟨k', hk', hki'⟩))
          clear hk' hki'
          go_wp2_with fail
          go_roundw
          case rel => exact ⟨j + 1, by omega, by go_num, R, hB3⟩
          case measure => simp [intOf]; omega
      · obtain rfl : j = n := by omega
        have DW := Lib.hid (bstep D1.out hB.out)
        go_wp2_with fail
        go_ret
        exact ⟨⟨true, rfl, ⟨fun _ => hokI.out.2 (okI_row fun i hi => hd.out i (by rw [← hn.out]; exact hi)), fun _ => rfl⟩⟩, DW.out⟩

theorem rdI_parts {N : List Nd} {a : Pid} : RdI N a ↔ OkI N a ∧ ∀ b, Rp (EI N) a b → OkI N b := by
  constructor
  · intro h; exact ⟨h a (.refl a), fun b hb => h b hb.rt⟩
  · rintro ⟨h1, h2⟩ b hb
    rcases hb.cases with e | e
    · subst e; exact h1
    · exact h2 b e

set_option maxRecDepth 100000 in
set_option maxHeartbeats 4000000 in
/-- THE MODEL'S READINESS of a node. -/
theorem srdy_at (g off cp : Nat) (N : List Nd) (U : Us) (x y : Int) (w : World) (hv : nodB N = true) (hA : NdAt w g off N U) (hcp : N.length ≤ cp) (hin : (x, y) ∈ idsN N) :
    Calls Try.prog 35 #[.slice (some ⟨g, off, none⟩) N.length cp, .agg #[.int .i64 x, .int .i64 y]] w fun e w' => (∃ b : Bool, e = .returned (.bool b) ∧ (b = true ↔ RdI N (x, y))) ∧ Below w.heap.size w w' := by
  have sr := fun p q W (hb : Below w.heap.size w W) => srch_at g off cp N U p q W hv (hA.up hb (Nat.le_refl _)) hcp
  have so := fun p q W (hb : Below w.heap.size w W) (hi : (p, q) ∈ idsN N) => sok_at g off cp N U p q W hv (hA.up hb (Nat.le_refl _)) hcp hi
  have hsl : (selP N (Rp (EI N) (x, y))).length ≤ 12 := Nat.le_trans (selP_len N _) (nod_of hv).1
  have hm : Hid (∀ b, b ∈ selP N (Rp (EI N) (x, y)) ↔ Rp (EI N) (x, y) b) := Lib.hid fun b => ⟨fun h => (mem_selP.1 h).2, fun h => mem_selP.2 ⟨rp_r h, h⟩⟩
  have hrd := Lib.hid (rdI_parts (N := N) (a := (x, y)))
  have hin := Lib.hid hin
  obtain ⟨nn, hnn⟩ : ∃ n, Hid (N.length = n) := ⟨_, Lib.hid rfl⟩
  rw [hnn.out] at sr so ⊢
  have D0 := Lib.hid ((Below.refl w.heap.size w).alloc (Nat.le_refl _) (.cells #[.int .i64 x, .int .i64 y] 31))
  have hI := Lib.hid (heap_alloc_new w (.cells #[.int .i64 x, .int .i64 y] 31))
  have so1 := fun p q W (hb : Below w.heap.size w W) (hi : Hid ((p, q) ∈ idsN N)) => so p q W hb hi.out
  clear hA hcp so
  go_enter Try.func35, Try.ntmps35
  go_wp2_with fail
  refine (sr x y _ D0.out).mono ?_
  rintro e w1 ⟨b, v, hb, rfl, hO, B⟩
  have D1 := Lib.hid (bstep D0.out B)
  have hI := Lib.hid (bblk B (by simp) hI.out)
  generalize selP N (Rp (EI N) (x, y)) = L at hO hsl hm
  obtain ⟨oc, rfl, hoc⟩ := hO.shape
  have hO := Lib.hid hO
  clear B D0
  obtain ⟨n, hn⟩ : ∃ n, Hid (L.length = n) := ⟨_, Lib.hid rfl⟩
  rw [hn.out] at hoc hsl ⊢
  have hbl := hO.out.lt
  have hil := lt_of_heap hI.out
  go_wp2_with fail
  go_loopw [6] (fun i wr => ∃ k : Nat, k ≤ n ∧ i = .int .i64 k ∧ Hid (∀ j, j < k → OkI N (L.getD j nop)) ∧ Hid (Below w1.heap.size w1 wr)) (fun i _ => n - (intOf i).toNat)
  case atStart => exact ⟨0, Nat.zero_le _, rfl, Lib.hid fun j hj => absurd hj (Nat.not_lt_zero _), Lib.hid (Below.refl _ _)⟩
  case round =>
    obtain ⟨j, hj, rfl, hd, hB⟩ := hrel
    have DW := Lib.hid (bstep D1.out hB.out)
    by_cases hlt : j < n
    · obtain ⟨c0, c1⟩ := hO.out.cell j (by rw [hn.out]; exact hlt)
      have c0 := (hB.out.cell (p := ⟨b, j * 2, none⟩) hbl).trans c0
      have c1 := (hB.out.cell (p := ⟨b, j * 2 + 1, none⟩) hbl).trans c1
      have hr := (hm.out _).1 (getD_memQ (L := L) (j := j) (by rw [hn.out]; exact hlt))
      obtain ⟨d, hdd⟩ : ∃ d, Hid (L.getD j nop = d) := ⟨_, Lib.hid rfl⟩
      rw [hdd.out] at c0 c1 hr
      obtain ⟨p, q⟩ := d
      dsimp only at c0 c1
      have hr := Lib.hid hr
      have hin2 := Lib.hid (rp_r hr.out)
      go_wp2_with fail
      refine (so1 p q _ DW.out hin2).mono ?_
      rintro e w3 ⟨⟨z, rfl, hz⟩, B⟩
      have hB3 := Lib.hid (bstep hB.out B)
      have D3 := Lib.hid (bstep DW.out B)
      have hz := Lib.hid hz
      clear B DW c0 c1
      cases z with
      | false =>
        go_wp2_with fail
        go_ret
        refine ⟨⟨false, rfl, ⟨fun h => (nomatch h), fun h => ?_⟩⟩, D3.out⟩
        exact hz.out.2 ((hrd.out.1 h).2 _ hr.out)
      | true =>
        have R := Lib.hid (up_to hd.out (show OkI N (L.getD j nop) by rw [hdd.out]; exact hz.out.1 rfl))
        clear hz
        go_wp2_with fail
        go_roundw
        case rel => exact ⟨j + 1, by omega, by go_num, R, hB3⟩
        case measure => simp [intOf]; omega
    · obtain rfl : j = n := by omega
      obtain ⟨i1, i2, _, _⟩ := blk2 (bblk hB.out (by omega) hI.out)
      have hil2 := Nat.lt_of_lt_of_le hil hB.out.size
      go_wp2_with fail
      refine (so1 x y _ DW.out hin).mono ?_
      rintro e w3 ⟨⟨z, rfl, hz⟩, B⟩
      have D3 := Lib.hid (bstep DW.out B)
      have hz := Lib.hid hz
      clear B DW
      go_wp2_with fail
      go_ret
      refine ⟨⟨z, rfl, ⟨fun h => hrd.out.2 ⟨hz.out.1 h, fun c hc => ?_⟩, fun h => hz.out.2 (hrd.out.1 h).1⟩⟩, D3.out⟩
      obtain ⟨i, hi, rfl⟩ := List.getElem_of_mem ((hm.out c).2 hc)
      have := hd.out i (by rw [← hn.out]; exact hi)
      rw [List.getD_eq_getElem?_getD, List.getElem?_eq_getElem hi] at this; exact this

set_option maxRecDepth 100000 in
/-- THE MODEL'S NodesReady. -/
theorem sready_any (u : Value) (N : List Nd) (x y : Int) (w : World) (h : Nds w u N) :
    Calls Try.prog 24 #[u, .agg #[.int .i64 x, .int .i64 y]] w fun e w' => e = .returned (.bool (readyR N (x, y))) ∧ Below w.heap.size w w' := by
  have D0 := (Below.refl w.heap.size w).alloc (Nat.le_refl _) (.cells #[.int .i64 x, .int .i64 y] 31)
  have sv := snval_any u N _ (h.up D0 (Nat.le_refl _))
  have hI := Lib.hid (heap_alloc_new w (.cells #[.int .i64 x, .int .i64 y] 31))
  have D0 := Lib.hid D0
  have h := Lib.hid h
  have hrr := Lib.hid (readyR_iff (N := N) (a := (x, y)))
  go_enter Try.func24, Try.ntmps24
  go_wp2_with fail
  refine sv.mono ?_
  rintro e w1 ⟨rfl, B⟩
  have D1 := Lib.hid (bstep D0.out B)
  have hI := Lib.hid (bblk B (by simp) hI.out)
  clear B D0 sv
  cases hv : nodB N with
  | false =>
    have hq : readyR N (x, y) = false := Bool.eq_false_iff.2 fun hh => by have := (hrr.out.1 hh).1; rw [hv] at this; cases this
    have hq := Lib.hid hq
    clear hv
    go_wp2_with fail
    go_ret
    exact ⟨ret_bool hq.out.symm, D1.out⟩
  | true =>
    have hv := Lib.hid hv
    obtain ⟨i1, i2, _, _⟩ := blk2 hI.out
    have hil := lt_of_heap hI.out
    have sa := sat_any u N x y w1 (h.out.up D1.out (Nat.le_refl _))
    go_wp2_with fail
    refine sa.mono ?_
    rintro e w2 ⟨⟨z, rfl, hz⟩, B⟩
    have D2 := Lib.hid (bstep D1.out B)
    have hI := Lib.hid (bblk B hil hI.out)
    obtain ⟨i1, i2, _, _⟩ := blk2 hI.out
    have hil := lt_of_heap hI.out
    clear B D1 sa
    rcases hz with ⟨rfl, hno⟩ | ⟨k, rfl, hk, hki⟩
    · have hq : readyR N (x, y) = false := Bool.eq_false_iff.2 fun hh => hno (hrr.out.1 hh).2.1
      have hq := Lib.hid hq
      go_wp2_with fail
      go_ret
      exact ⟨ret_bool hq.out.symm, D2.out⟩
    · have kz : (0 : Int) ≤ k := by omega
      have hin := mem_idsN.2 ⟨k, hk, hki⟩
      obtain ⟨a, cap, rfl, h1, h2, h3⟩ := h.out
      rcases h3 with h3 | ⟨b, off, rfl, h4, h5⟩
      · omega
      · obtain ⟨U, hA⟩ := NdAt.of h4 h5
        have sr := srdy_at b off cap N U x y w2 hv.out (hA.up D2.out (Nat.le_refl _)) h1 hin
        have hin := Lib.hid hin
        clear h1 h2 h4 h5 hA hk hki
        go_wp2_with fail
        refine sr.mono ?_
        rintro e w3 ⟨⟨z, rfl, hz⟩, B⟩
        have D3 := Lib.hid (bstep D2.out B)
        have hz := Lib.hid hz
        clear B D2 sr
        go_wp2_with fail
        go_ret
        exact ⟨ret_bool (Bool.eq_iff_iff.2 ⟨fun hh => hrr.out.2 ⟨hv.out, hin.out, hz.out.1 hh⟩, fun hh => hz.out.2 (hrr.out.1 hh).2.2⟩), D3.out⟩
end Go.Proofs.Ytbklkhndjckckaa

/- The laws' sizes of slices of ids. -/
namespace Go.Proofs.Ytbklkhndjckckaa
open Go.RowKit
set_option linter.unusedVariables false

theorem szP_any (a : Option Addr) (n cap : Nat) (k : Int) (w : World) (hk : k = 1048576) (h : n ≤ 9223372036854775807) :
    Calls Try.prog 67 #[.slice a n cap, .int .i64 k] w fun e w' => e = .returned (.int .i64 (if 1048576 < n then -1 else 1048576 - n)) ∧ Below w.heap.size w w' := by
  subst hk
  by_cases hl : 1048576 < n
  · rw [if_pos hl]
    go_enter Try.func67, Try.ntmps67
    go_wp2_with fail
    go_ret
    exact ⟨rfl, Below.refl _ _⟩
  · rw [if_neg hl]
    go_enter Try.func67, Try.ntmps67
    go_wp2_with fail
    go_ret
    exact ⟨rfl, Below.refl _ _⟩

/-- .. with whatever is left. -/
theorem szP_gen (a : Option Addr) (n cap : Nat) (k : Int) (w : World) (hk : 0 ≤ k) (hk2 : k ≤ 1048576) (h : n ≤ 9223372036854775807) :
    Calls Try.prog 67 #[.slice a n cap, .int .i64 k] w fun e w' => e = .returned (.int .i64 (if k < n then -1 else k - n)) ∧ Below w.heap.size w w' := by
  by_cases hl : k < n
  · rw [if_pos hl]
    go_enter Try.func67, Try.ntmps67
    go_wp2_with fail
    go_ret
    exact ⟨rfl, Below.refl _ _⟩
  · rw [if_neg hl]
    go_enter Try.func67, Try.ntmps67
    go_wp2_with fail
    go_ret
    exact ⟨rfl, Below.refl _ _⟩
end Go.Proofs.Ytbklkhndjckckaa

/- The laws' sizes of slices of nodes. -/
namespace Go.Proofs.Ytbklkhndjckckaa
open Go.RowKit
set_option linter.unusedVariables false

/-- A node that came in: what it depends on may be long. -/
def LN (w : World) (b o : Nat) : Prop := ∃ (p r s : Int) (ua : Option Addr) (un uc : Nat), w.cell? ⟨b, o, none⟩ = some (.int .i64 p) ∧ w.cell? ⟨b, o + 1, none⟩ = some (.int .i64 r) ∧ w.cell? ⟨b, o + 2, none⟩ = some (.int .i64 s) ∧ w.cell? ⟨b, o + 3, none⟩ = some (.slice ua un uc) ∧ un ≤ maxLen ∧ (1048576 < un ∨ ∃ C, Ids w (.slice ua un uc) C)
/-- Nodes that came in. -/
def LNs (w : World) (a : Option Addr) (len cap : Nat) : Prop := len ≤ maxLen ∧ len ≤ cap ∧ (len = 0 ∨ ∃ b off, a = some ⟨b, off, none⟩ ∧ b < w.heap.size ∧ ∀ i, i < len → LN w b (off + i * 4))

set_option maxRecDepth 100000 in
theorem szN_any (p r s : Int) (ua : Option Addr) (un uc : Nat) (k : Int) (w : World) (hk : 0 ≤ k) (hk2 : k ≤ 1048576) (h : un ≤ 9223372036854775807) :
    Calls Try.prog 50 #[.agg #[.int .i64 p, .int .i64 r, .int .i64 s, .slice ua un uc], .int .i64 k] w fun e w' => e = .returned (.int .i64 (if k < un then -1 else k - un)) ∧ Below w.heap.size w w' := by
  have sz := fun w => szP_gen ua un uc k w hk hk2 h
  by_cases hl : k < un
  · rw [if_pos hl] at sz ⊢
    go_enter Try.func50, Try.ntmps50
    go_wp2_with fail
    refine (sz _).mono ?_
    rintro e w1 ⟨rfl, hb⟩
    have D1 := Lib.hid (((Below.refl w.heap.size w).alloc (Nat.le_refl _) (.cells #[.int .i64 p, .int .i64 r, .int .i64 s, .slice ua un uc] 78)).trans (hb.mono (by simp)))
    clear hb sz
    go_wp2_with fail
    go_ret
    exact ⟨rfl, D1.out⟩
  · rw [if_neg hl] at sz ⊢
    obtain ⟨z, hz⟩ : ∃ z, k - (un : Int) = z := ⟨_, rfl⟩
    rw [hz] at sz ⊢
    have hz0 : ¬ z < 0 := by omega
    go_enter Try.func50, Try.ntmps50
    go_wp2_with fail
    refine (sz _).mono ?_
    rintro e w1 ⟨rfl, hb⟩
    have D1 := Lib.hid (((Below.refl w.heap.size w).alloc (Nat.le_refl _) (.cells #[.int .i64 p, .int .i64 r, .int .i64 s, .slice ua un uc] 78)).trans (hb.mono (by simp)))
    clear hb sz
    go_wp2_with fail
    go_ret
    exact ⟨rfl, D1.out⟩

set_option maxRecDepth 100000 in
set_option maxHeartbeats 2000000 in
theorem szNs_at (b off ca n : Nat) (w : World) (hb : b < w.heap.size) (hm : n ≤ 9223372036854775807) (h : ∀ i, i < n → LN w b (off + i * 4)) :
    Calls Try.prog 21 #[.slice (some ⟨b, off, none⟩) n ca, .int .i64 1048576] w fun e w' => (∃ z : Int, e = .returned (.int .i64 z) ∧ (z = -1 ∨ 0 ≤ z ∧ n ≤ 1048576 ∧ ∀ i, i < n → ∃ x, NdIn w b (off + i * 4) x)) ∧ Below w.heap.size w w' := by
  have h := Lib.hid h
  by_cases hl : 1048576 < n
  · go_enter Try.func21, Try.ntmps21
    go_wp2_with fail
    go_ret
    exact ⟨⟨_, rfl, .inl rfl⟩, Below.refl _ _⟩
  · go_enter Try.func21, Try.ntmps21
    go_wp2_with fail
    go_loopw [1, 5] (fun q i wr => ∃ (k : Nat) (l : Int), k ≤ n ∧ i = .int .i64 k ∧ q = .int .i64 l ∧ 0 ≤ l ∧ l ≤ 1048576 ∧ Hid (∀ i, i < k → ∃ x, NdIn w b (off + i * 4) x) ∧ Below w.heap.size w wr) (fun _ i _ => n - (intOf i).toNat)
    case atStart => exact ⟨0, 1048576 - n, Nat.zero_le _, rfl, rfl, by omega, by omega, Lib.hid (fun i hi => absurd hi (Nat.not_lt_zero _)), Below.refl _ _⟩
    case round =>
      obtain ⟨k, l, hk, rfl, rfl, hl0, hl1, hd, hnx⟩ := hrel
      by_cases hlt : k < n
      · obtain ⟨p, r, s, ua, un, uc, c0, c1, c2, c3, hun, hC⟩ := h.out k hlt
        have q0 := (hnx.cell (p := ⟨b, off + k * 4, none⟩) hb).trans c0
        have q1 := (hnx.cell (p := ⟨b, off + k * 4 + 1, none⟩) hb).trans c1
        have q2 := (hnx.cell (p := ⟨b, off + k * 4 + 2, none⟩) hb).trans c2
        have q3 := (hnx.cell (p := ⟨b, off + k * 4 + 3, none⟩) hb).trans c3
        have sz := fun w => szN_any p r s ua un uc l w hl0 hl1 (by simpa [maxLen] using hun)
        have hnx := Lib.hid hnx
        by_cases hlu : l < un
        · rw [if_pos hlu] at sz
          clear hC hd h c0 c1 c2 c3
          go_wp2_with fail
          refine (sz _).mono ?_
          rintro e w1 ⟨rfl, hb1⟩
          have D1 := Lib.hid (hnx.out.trans (hb1.mono hnx.out.size))
          clear hb1 sz hnx
          go_wp2_with fail
          go_ret
          exact ⟨⟨_, rfl, .inl rfl⟩, D1.out⟩
        · rw [if_neg hlu] at sz
          have hd := Lib.hid (up_to hd.out (by
            obtain ⟨C, hC⟩ := hC.resolve_left (by omega)
            exact ⟨⟨(p, r), s, C⟩, ua, un, uc, c0, c1, c2, c3, hC⟩))
          obtain ⟨z, hz⟩ : ∃ z, l - (un : Int) = z := ⟨_, rfl⟩
          rw [hz] at sz
          have hz0 : ¬ z < 0 := by omega
          have hz1 : z ≤ 1048576 := by omega
          clear hC c0 c1 c2 c3 h
          go_wp2_with fail
          refine (sz _).mono ?_
          rintro e w1 ⟨rfl, hb1⟩
          have D1 := Lib.hid (hnx.out.trans (hb1.mono hnx.out.size))
          clear hb1 sz hnx
          go_wp2_with fail
          go_roundw
          case rel => exact ⟨k + 1, z, by omega, by go_num, rfl, by omega, hz1, hd, D1.out⟩
          case measure => simp [intOf]; omega
      · obtain rfl : k = n := by omega
        have hnx := Lib.hid hnx
        clear h
        go_wp2_with fail
        go_ret
        exact ⟨⟨_, rfl, .inr ⟨hl0, by omega, hd.out⟩⟩, hnx.out⟩

set_option maxRecDepth 100000 in
theorem szNs_nil (a : Option Addr) (ca : Nat) (w : World) :
    Calls Try.prog 21 #[.slice a 0 ca, .int .i64 1048576] w fun e w' => e = .returned (.int .i64 1048576) ∧ Below w.heap.size w w' := by
  go_enter Try.func21, Try.ntmps21
  go_wp2_with fail
  refine wp_loop_rounds 1 ?_
  rw [rounds_succ]
  go_wp2_with fail
  go_ret
  exact ⟨rfl, Below.refl _ _⟩

theorem nds_of {w : World} {b off n ca : Nat} (hca : n ≤ ca) (hb : b < w.heap.size) (hn : n ≤ 2000000) (h : ∀ i, i < n → ∃ x, NdIn w b (off + i * 4) x) : ∃ N : List Nd, N.length = n ∧ Nds w (.slice (some ⟨b, off, none⟩) n ca) N := by
  haveI : Inhabited Nd := ⟨nd0⟩
  have hf : ∃ f : Nat → Nd, ∀ i, i < n → NdIn w b (off + i * 4) (f i) := by
    refine ⟨fun i => if hi : i < n then (h i hi).choose else nd0, fun i hi => ?_⟩
    show NdIn w b (off + i * 4) (if hi : i < n then (h i hi).choose else nd0)
    rw [dif_pos hi]; exact (h i hi).choose_spec
  obtain ⟨f, hf⟩ := hf
  have hl : ((List.range n).map f).length = n := by simp
  refine ⟨(List.range n).map f, hl, some ⟨b, off, none⟩, ca, by rw [hl], by omega, by omega, .inr ⟨b, off, rfl, hb, fun i hi => ?_⟩⟩
  rw [hl] at hi
  have hg : ((List.range n).map f).getD i nd0 = f i := by
    rw [List.getD_eq_getElem?_getD, List.getElem?_map, List.getElem?_range hi]; rfl
  rw [hg]; exact hf i hi

theorem szNs_any (a : Option Addr) (len cap : Nat) (w : World) (h : LNs w a len cap) :
    Calls Try.prog 21 #[.slice a len cap, .int .i64 1048576] w fun e w' => (∃ z : Int, e = .returned (.int .i64 z) ∧ (z = -1 ∨ 0 ≤ z ∧ ∃ N, N.length ≤ 1048576 ∧ Nds w (.slice a len cap) N)) ∧ Below w.heap.size w w' := by
  obtain ⟨hm, hca, h⟩ := h
  rcases h with rfl | ⟨b, off, rfl, hb, h⟩
  · refine (szNs_nil a cap w).mono ?_
    rintro e w1 ⟨rfl, hb⟩
    exact ⟨⟨_, rfl, .inr ⟨by omega, [], Nat.zero_le _, a, cap, rfl, Nat.zero_le _, Nat.zero_le _, .inl rfl⟩⟩, hb⟩
  · refine (szNs_at b off cap len w hb (by simpa [maxLen] using hm) h).mono ?_
    rintro e w1 ⟨⟨z, rfl, hz⟩, hb1⟩
    refine ⟨⟨z, rfl, hz.imp id fun ⟨h0, h1, h2⟩ => ?_⟩, hb1⟩
    obtain ⟨N, hN, hh⟩ := nds_of (ca := cap) hca hb (by omega) h2
    exact ⟨h0, N, by omega, hh⟩
end Go.Proofs.Ytbklkhndjckckaa

/- The laws' comparison of nodes. -/
namespace Go.Proofs.Ytbklkhndjckckaa
open Go.RowKit
set_option linter.unusedVariables false

set_option maxRecDepth 100000 in
set_option maxHeartbeats 2000000 in
/-- A node is like itself. -/
theorem eqN_any (x : Nd) (u v : Value) (w : World) (hu : Ids w u x.deps) (hv : Ids w v x.deps) :
    Calls Try.prog 52 #[ndv x u, ndv x v] w fun e w' => e = .returned (.bool true) ∧ Below w.heap.size w w' := by
  have sc := fun W (hb : Below w.heap.size w W) => eqP_any u v x.deps W (hu.up hb (Nat.le_refl _)) (hv.up hb (Nat.le_refl _))
  obtain ⟨ua, uc, rfl, _⟩ := hu
  obtain ⟨va, vc, rfl, _⟩ := hv
  obtain ⟨⟨p, r⟩, s, C⟩ := x
  dsimp only [ndv] at sc ⊢
  obtain ⟨n, hn⟩ : ∃ n, Hid (C.length = n) := ⟨_, Lib.hid rfl⟩
  rw [hn.out] at sc ⊢
  have D0 := Lib.hid (((Below.refl w.heap.size w).alloc (Nat.le_refl _) (.cells #[.int .i64 p, .int .i64 r, .int .i64 s, .slice ua n uc] 33)).alloc (by simp) (.cells #[.int .i64 p, .int .i64 r, .int .i64 s, .slice va n vc] 33))
  go_enter Try.func52, Try.ntmps52
  go_wp2_with fail
  refine (eqP1 p r _).mono ?_
  rintro e w1 ⟨rfl, B⟩
  have D1 := Lib.hid (D0.out.trans (B.mono D0.out.size))
  have A1 := Lib.hid ((B.block w.heap.size (by simp; omega)).trans (hold (heap_alloc_new w (.cells #[.int .i64 p, .int .i64 r, .int .i64 s, .slice ua n uc] 33))))
  have O1 := Lib.hid ((B.block (w.heap.size + 1) (by simp)).trans (heap_alloc_at _ (.cells #[.int .i64 p, .int .i64 r, .int .i64 s, .slice va n vc] 33) _ (by simp)))
  obtain ⟨a0, a1, a2, a3⟩ := four_cells A1.out
  obtain ⟨o0, o1, o2, o3⟩ := four_cells O1.out
  clear D0 B
  go_wp2_with fail
  refine (sc _ D1.out).mono ?_
  rintro e w2 ⟨rfl, B⟩
  have D2 := Lib.hid (bstep D1.out B)
  clear sc B D1
  go_wp2_with fail
  go_ret
  exact ⟨rfl, D2.out⟩

set_option maxRecDepth 100000 in
set_option maxHeartbeats 4000000 in
theorem eqNs_at (b off ca b' off' ca' : Nat) (N : List Nd) (w : World) (hb : b < w.heap.size) (hb' : b' < w.heap.size) (hm : N.length ≤ 2000000) (h : ∀ i, i < N.length → NdIn w b (off + i * 4) (N.getD i nd0)) (h' : ∀ i, i < N.length → NdIn w b' (off' + i * 4) (N.getD i nd0)) :
    Calls Try.prog 23 #[.slice (some ⟨b, off, none⟩) N.length ca, .slice (some ⟨b', off', none⟩) N.length ca'] w fun e w' => e = .returned (.bool true) ∧ Below w.heap.size w w' := by
  have h := Lib.hid h
  have h' := Lib.hid h'
  obtain ⟨n, hn⟩ : ∃ n, Hid (N.length = n) := ⟨_, Lib.hid rfl⟩
  rw [hn.out] at hm ⊢
  go_enter Try.func23, Try.ntmps23
  go_wp2_with fail
  go_loopw [5] (fun i wr => ∃ k : Nat, k ≤ n ∧ i = .int .i64 k ∧ Below w.heap.size w wr) (fun i _ => n - (intOf i).toNat)
  case atStart => exact ⟨0, Nat.zero_le _, rfl, Below.refl _ _⟩
  case round =>
    obtain ⟨k, hk, rfl, hnx⟩ := hrel
    by_cases hlt : k < n
    · obtain ⟨ua, un, uc, h0, h1, h2, h3, h4⟩ := h.out k (by rw [hn.out]; exact hlt)
      obtain ⟨va, vn, vc, g0, g1, g2, g3, g4⟩ := h'.out k (by rw [hn.out]; exact hlt)
      have q0 := (hnx.cell (p := ⟨b, off + k * 4, none⟩) hb).trans h0
      have q1 := (hnx.cell (p := ⟨b, off + k * 4 + 1, none⟩) hb).trans h1
      have q2 := (hnx.cell (p := ⟨b, off + k * 4 + 2, none⟩) hb).trans h2
      have q3 := (hnx.cell (p := ⟨b, off + k * 4 + 3, none⟩) hb).trans h3
      have r0 := (hnx.cell (p := ⟨b', off' + k * 4, none⟩) hb').trans g0
      have r1 := (hnx.cell (p := ⟨b', off' + k * 4 + 1, none⟩) hb').trans g1
      have r2 := (hnx.cell (p := ⟨b', off' + k * 4 + 2, none⟩) hb').trans g2
      have r3 := (hnx.cell (p := ⟨b', off' + k * 4 + 3, none⟩) hb').trans g3
      have sc := fun W (hB : Below wr.heap.size wr W) => eqN_any (N.getD k nd0) (.slice ua un uc) (.slice va vn vc) W ((h4.up hnx (Nat.le_refl _)).up hB (Nat.le_refl _)) ((g4.up hnx (Nat.le_refl _)).up hB (Nat.le_refl _))
      clear h0 h1 h2 h3 h4 g0 g1 g2 g3 g4
      unfold ndv at sc
      generalize N.getD k nd0 = x at q0 q1 q2 r0 r1 r2 sc
      obtain ⟨⟨p, r⟩, s, C⟩ := x
      dsimp only at q0 q1 q2 r0 r1 r2 sc
      have hnx := Lib.hid hnx
      go_wp2_with fail
      go_region_with (first | (go_at_call 52; refine (sc _ (by first | exact Below.refl _ _ | exact Below.drew (Below.refl _ _))).mono ?_; rintro e w1 ⟨rfl, B⟩; have D1 := Lib.hid (bstep (Below.drew hnx.out) B); clear B))
      all_goals
        go_wp2_with fail
        go_roundw
        case rel => exact ⟨k + 1, by omega, by go_num, D1.out⟩
        case measure => simp [intOf]; omega
    · obtain rfl : k = n := by omega
      have hnx := Lib.hid hnx
      go_wp2_with fail
      go_ret
      exact ⟨rfl, hnx.out⟩

set_option maxRecDepth 100000 in
theorem eqNs_nil (a b : Option Addr) (ca cb : Nat) (w : World) :
    Calls Try.prog 23 #[.slice a 0 ca, .slice b 0 cb] w fun e w' => e = .returned (.bool true) ∧ Below w.heap.size w w' := by
  go_enter Try.func23, Try.ntmps23
  go_wp2_with fail
  refine wp_loop_rounds 1 ?_
  rw [rounds_succ]
  go_wp2_with fail
  go_ret
  exact ⟨rfl, Below.refl _ _⟩

/-- NODES ARE LIKE THEMSELVES. -/
theorem eqNs_any (u v : Value) (N : List Nd) (w : World) (hu : Nds w u N) (hv : Nds w v N) :
    Calls Try.prog 23 #[u, v] w fun e w' => e = .returned (.bool true) ∧ Below w.heap.size w w' := by
  obtain ⟨a, cap, rfl, h1, h2, h3⟩ := hu
  obtain ⟨a', cap', rfl, g1, g2, g3⟩ := hv
  rcases h3 with h3 | ⟨b, off, rfl, h4, h5⟩
  · obtain rfl : N = [] := List.length_eq_zero_iff.1 h3
    exact eqNs_nil a a' cap cap' w
  · rcases g3 with g3 | ⟨b', off', rfl, g4, g5⟩
    · obtain rfl : N = [] := List.length_eq_zero_iff.1 g3
      exact eqNs_nil _ _ _ _ w
    · exact eqNs_at b off cap b' off' cap' N w h4 g4 h2 h5 g5
end Go.Proofs.Ytbklkhndjckckaa

/- The walk of FnExactNodesReady. -/
namespace Go.Proofs.Ytbklkhndjckckaa
open Go.RowKit
set_option linter.unusedVariables false

theorem lns_up {w w' : World} {B : Nat} {a : Option Addr} {len cap : Nat} (h : LNs w a len cap) (hb : Below B w w') (hB : w.heap.size ≤ B) : LNs w' a len cap := by
  obtain ⟨h1, h2, h3⟩ := h
  refine ⟨h1, h2, ?_⟩
  rcases h3 with h3 | ⟨b, off, rfl, hl, hc⟩
  · exact .inl h3
  · refine .inr ⟨b, off, rfl, Nat.lt_of_lt_of_le hl hb.size, fun i hi => ?_⟩
    obtain ⟨p, r, s, ua, un, uc, e0, e1, e2, e3, e4, e5⟩ := hc i hi
    have hcc : ∀ o, w'.cell? ⟨b, o, none⟩ = w.cell? ⟨b, o, none⟩ := fun o => hb.cell (p := ⟨b, o, none⟩) (Nat.lt_of_lt_of_le hl hB)
    exact ⟨p, r, s, ua, un, uc, by rw [hcc]; exact e0, by rw [hcc]; exact e1, by rw [hcc]; exact e2, by rw [hcc]; exact e3, e4, e5.imp id fun ⟨C, hC⟩ => ⟨C, hC.up hb hB⟩⟩

set_option maxRecDepth 100000 in
set_option maxHeartbeats 4000000 in
theorem exNodesReady_any (a : Option Addr) (len cap : Nat) (x y : Int) (w : World) (h : LNs w a len cap) :
    Calls Try.prog 8 #[.slice a len cap, .agg #[.int .i64 x, .int .i64 y]] w fun e w' => e = .returned (.bool true) ∧ Below w.heap.size w w' := by
  have D0 := (Below.refl w.heap.size w).alloc (Nat.le_refl _) (.cells #[.int .i64 x, .int .i64 y] 44)
  have sz := szNs_any a len cap _ (lns_up h D0 (Nat.le_refl _))
  have hI := Lib.hid (heap_alloc_new w (.cells #[.int .i64 x, .int .i64 y] 44))
  have D0 := Lib.hid D0
  clear h
  go_enter Try.func8, Try.ntmps8
  go_wp2_with fail
  refine sz.mono ?_
  rintro e w1 ⟨⟨z, rfl, hz⟩, B⟩
  have D1 := Lib.hid (bstep D0.out B)
  have hI := Lib.hid (bblk B (by simp) hI.out)
  have hil := lt_of_heap hI.out
  rcases hz with rfl | ⟨hz0, N, hN, hU⟩
  · clear B sz D0
    go_wp2_with fail
    go_ret
    exact ⟨rfl, D1.out⟩
  · have hz1 : ¬ z < 0 := by omega
    have hU := Lib.hid (hU.up B (Nat.le_refl _))
    have tn := fun W (hb : Below w1.heap.size w1 W) => toNs_any _ N W (hU.out.up hb (Nat.le_refl _))
    have sv := fun u w h => sready_any u N x y w h
    have iv := fun u w h => iready_any u N x y w h
    generalize readyR N (x, y) = q at sv iv
    obtain ⟨i0, i1, _, _⟩ := blk2 hI.out
    have E1 := Lib.hid (Below.refl w1.heap.size w1)
    clear B sz D0
    go_wp2_with fail
    go_region_with (first
      | (go_at_call 22; (with_reducible refine (tn _ (Below.drew E1.out)).mono ?_); rintro e w2 ⟨u2, rfl, O2, B⟩; have E2 := Lib.hid (bstep (Below.drew E1.out) B); have hI2 := Lib.hid (bblk E2.out hil hI.out); obtain ⟨j0, j1, _, _⟩ := blk2 hI2.out; have hil2 := lt_of_heap hI2.out; have O2 := Lib.hid O2; clear B)
      | (go_at_call 25; (with_reducible refine (toId_any x y _).mono ?_); rintro e w3 ⟨rfl, B⟩; have E3 := Lib.hid (bstep E2.out B); have O3 := Lib.hid (O2.out.up B); clear B)
      | (go_at_call 24; (with_reducible refine (sv _ _ O3.out.read).mono ?_); rintro e w4 ⟨rfl, B⟩; have E4 := Lib.hid (bstep E3.out B); have hI4 := Lib.hid (bblk E4.out hil hI.out); obtain ⟨k0, k1, _, _⟩ := blk2 hI4.out; have hil4 := lt_of_heap hI4.out; clear B))
    all_goals
      simp only [List.getElem_toArray, List.getElem_cons_succ, List.getElem_cons_zero, Act.put, List.setIfInBounds_toArray, List.set_cons_zero, List.set_cons_succ]
      clear j0 j1 O2 O3 E2 E3 hI2 hil2 i0 i1
      go_wp2_with fail
      refine (tn _ E4.out).mono ?_
      rintro e w5 ⟨u5, rfl, O5, B⟩
      have E5 := Lib.hid (bstep E4.out B)
      have hI5 := Lib.hid (bblk E5.out hil hI.out)
      obtain ⟨l0, l1, _, _⟩ := blk2 hI5.out
      have hil5 := lt_of_heap hI5.out
      have O5 := Lib.hid O5
      clear B k0 k1 hI4 hil4 E4
      go_wp2_with fail
      refine (toId_any x y _).mono ?_
      rintro e w6 ⟨rfl, B⟩
      have E6 := Lib.hid (bstep E5.out B)
      have O6 := Lib.hid (O5.out.up B)
      clear B E5 O5
      go_wp2_with fail
      refine (iv _ _ O6.out.read).mono ?_
      rintro e w7 ⟨rfl, B⟩
      have E7 := Lib.hid (bstep E6.out B)
      have O7 := Lib.hid (O6.out.up B)
      clear B E6 O6
      go_wp2_with fail
      refine (tn _ E7.out).mono ?_
      rintro e w8 ⟨u8, rfl, O8, B⟩
      have E8 := Lib.hid (bstep E7.out B)
      have O7 := Lib.hid (O7.out.up B)
      have O8 := Lib.hid O8
      clear B E7
      go_wp2_with fail
      refine (eqNs_any _ _ N _ O7.out.read O8.out.read).mono ?_
      rintro e w9 ⟨rfl, B⟩
      have D9 := Lib.hid (bstep D1.out (bstep E8.out B))
      clear B E8 O7 O8
      go_wp2_with fail
      go_ret
      exact ⟨rfl, D9.out⟩
end Go.Proofs.Ytbklkhndjckckaa

/- The reader of codes (spec.l6Rd): what it holds, and its pick. -/
namespace Go.Proofs.Ytbklkhndjckckaa
open Go.RowKit
set_option linter.unusedVariables false

/-- Below block B, block r aside, the world is as it was. -/
structure Keep (B r : Nat) (w w' : World) : Prop where
  os : w'.os = w.os
  tape : w'.tape = w.tape
  output : w'.output = w.output
  size : w.heap.size ≤ w'.heap.size
  block : ∀ k, k < B → k ≠ r → w'.heap[k]? = w.heap[k]?

theorem Keep.refl (B r : Nat) (w : World) : Keep B r w w := ⟨rfl, rfl, rfl, Nat.le_refl _, fun _ _ _ => rfl⟩
theorem Keep.trans {B r : Nat} {a b c : World} (h : Keep B r a b) (k : Keep B r b c) : Keep B r a c :=
  ⟨k.os.trans h.os, k.tape.trans h.tape, k.output.trans h.output, Nat.le_trans h.size k.size, fun i hi hr => (k.block i hi hr).trans (h.block i hi hr)⟩
theorem Keep.mono {B B' r : Nat} {w w' : World} (h : Keep B r w w') (hB : B' ≤ B) : Keep B' r w w' := ⟨h.os, h.tape, h.output, h.size, fun k hk => h.block k (Nat.lt_of_lt_of_le hk hB)⟩
theorem Keep.of_below {B r : Nat} {w w' : World} (h : Below B w w') : Keep B r w w' := ⟨h.os, h.tape, h.output, h.size, fun k hk _ => h.block k hk⟩
theorem Keep.below {B r : Nat} {w w' : World} (h : Keep B r w w') (hr : B ≤ r) : Below B w w' := ⟨h.os, h.tape, h.output, h.size, fun k hk => h.block k hk (by omega)⟩
theorem Keep.drewN {B r : Nat} {a w : World} (h : Keep B r a w) (n : Nat) : Keep B r a (w.drewN n) := ⟨h.os, h.tape, h.output, h.size, h.block⟩
theorem Keep.alloc {B r : Nat} {a w : World} (h : Keep B r a w) (hB : B ≤ w.heap.size) (o : Obj) : Keep B r a (w.alloc o) :=
  h.trans (Keep.of_below ((Below.refl B w).alloc hB o))
theorem Keep.setCell {B r : Nat} {a w : World} (h : Keep B r a w) {p : Addr} (hp : B ≤ p.block) (u : Value) : Keep B r a (w.setCell p u) :=
  h.trans (Keep.of_below ((Below.refl B w).setCell hp u))
theorem Keep.setR {B r : Nat} {a w : World} (h : Keep B r a w) (i : Nat) (u : Value) : Keep B r a (w.setCell ⟨r, i, none⟩ u) :=
  h.trans ⟨rfl, rfl, rfl, by simp [World.setCell], fun k _ hk => Below.heap_setCell _ _ _ _ hk⟩

/-- What a walk takes of it: cells and marks of blocks behind r that were there. -/
theorem kcell {r : Nat} {W w1 : World} (hb : Keep W.heap.size r W w1) : (∀ b o, r < b → b < W.heap.size → w1.cell? ⟨b, o, none⟩ = W.cell? ⟨b, o, none⟩) ∧ (∀ b o, r < b → b < W.heap.size → w1.frozen? ⟨b, o, none⟩ = W.frozen? ⟨b, o, none⟩) :=
  ⟨fun b o hr h => World.cell?_of_block (a := ⟨b, o, none⟩) (hb.block b h (by omega)), fun b o hr h => World.frozen?_of_block (a := ⟨b, o, none⟩) (hb.block b h (by omega))⟩

/-- The bytes of a code: none, or the cells of a block. -/
def Bytes (w : World) (r : Nat) (a : Option Addr) (len : Nat) : Prop :=
  len = 0 ∨ ∃ b off, a = some ⟨b, off, none⟩ ∧ b < r ∧ ∀ i, i < len → ∃ z : Int, 0 ≤ z ∧ z ≤ 255 ∧ w.cell? ⟨b, off + i, none⟩ = some (.int .u8 z)

/-- A reader in block r, at a place up to n. -/
def Rd (w : World) (r n : Nat) : Prop :=
  ∃ (a : Option Addr) (len cap : Nat) (p : Int), w.cell? ⟨r, 0, none⟩ = some (.slice a len cap) ∧ w.cell? ⟨r, 1, none⟩ = some (.int .i64 p) ∧ w.frozen? ⟨r, 1, none⟩ = false ∧ 0 ≤ p ∧ p ≤ n ∧ len ≤ 2000 ∧ r < w.heap.size ∧ Bytes w r a len


/-- What pick leaves. -/
def PickPost (k : Int) (r n : Nat) (w : World) (e : Ending) (w' : World) : Prop :=
  ∃ x : Int, e = .returned (.int .i64 x) ∧ 0 ≤ x ∧ (1 ≤ k → x < k) ∧ Rd w' r (n + 1) ∧ Keep w.heap.size r w w'

theorem Bytes.kept {w w' : World} {r : Nat} {a : Option Addr} {len : Nat} (h : Bytes w r a len) (hk : ∀ k, k < r → w'.heap[k]? = w.heap[k]?) : Bytes w' r a len := by
  rcases h with h | ⟨b, off, e, hb, hc⟩
  · exact .inl h
  · exact .inr ⟨b, off, e, hb, fun i hi => by
      obtain ⟨z, z0, z1, hz⟩ := hc i hi
      exact ⟨z, z0, z1, (World.cell?_of_block (a := ⟨b, off + i, none⟩) (hk b hb)).trans hz⟩⟩

/-- A reader is still the reader where nothing up to its block has turned. -/
theorem Rd.kept {w w' : World} {r n : Nat} (h : Rd w r n) (hb : Below (r + 1) w w') : Rd w' r n := by
  obtain ⟨a, len, cap, p, h0, h1, hf, hp0, hp1, hl, hr, hby⟩ := h
  exact ⟨a, len, cap, p, (hb.cell (p := ⟨r, 0, none⟩) (Nat.lt_succ_self r)).trans h0, (hb.cell (p := ⟨r, 1, none⟩) (Nat.lt_succ_self r)).trans h1, (hb.frozen (p := ⟨r, 1, none⟩) (Nat.lt_succ_self r)).trans hf, hp0, hp1, hl, Nat.lt_of_lt_of_le hr hb.size, hby.kept (fun k hk => hb.block k (by omega))⟩

theorem Rd.more {w : World} {r n m : Nat} (h : Rd w r n) (hm : n ≤ m) : Rd w r m := by
  obtain ⟨a, len, cap, p, h0, h1, hf, hp0, hp1, hl, hr, hby⟩ := h
  exact ⟨a, len, cap, p, h0, h1, hf, hp0, by omega, hl, hr, hby⟩

theorem Rd.lt {w : World} {r n : Nat} (h : Rd w r n) : r < w.heap.size := by
  obtain ⟨a, len, cap, p, h0, h1, hf, hp0, hp1, hl, hr, hby⟩ := h
  exact hr

/-- The place goes on by one. -/
theorem rd_next {w : World} {r n : Nat} {a : Option Addr} {len cap : Nat} {p : Int} (h0 : w.cell? ⟨r, 0, none⟩ = some (.slice a len cap)) (h1 : w.cell? ⟨r, 1, none⟩ = some (.int .i64 p)) (hf : w.frozen? ⟨r, 1, none⟩ = false)
    (hp0 : 0 ≤ p) (hp1 : p ≤ n) (hl : len ≤ 2000) (hr : r < w.heap.size) (hb : Bytes w r a len) : Rd (w.setCell ⟨r, 1, none⟩ (.int .i64 (p + 1))) r (n + 1) := by
  refine ⟨a, len, cap, p + 1, ?_, ?_, ?_, by omega, by omega, hl, by simpa using hr, hb.kept fun k hk => Below.heap_setCell _ _ _ _ (by simp; omega)⟩
  · go_simp
  · go_simp
  · go_simp

theorem Rd.alloc {w : World} {r n : Nat} (h : Rd w r n) (o : Obj) : Rd (w.alloc o) r n :=
  h.kept ((Below.refl _ _).alloc (Nat.succ_le_of_lt h.lt) _)
theorem Rd.setCell {w : World} {r n : Nat} (h : Rd w r n) {p : Addr} (hp : r < p.block) (u : Value) : Rd (w.setCell p u) r n :=
  h.kept ((Below.refl _ _).setCell (Nat.succ_le_of_lt hp) _)
theorem Rd.drewN {w : World} {r n : Nat} (h : Rd w r n) (m : Nat) : Rd (w.drewN m) r n :=
  h.kept ⟨rfl, rfl, rfl, Nat.le_refl _, fun _ _ => rfl⟩

theorem xor_i64 (a b : Nat) (ha : a < 9223372036854775808) (hb : b < 9223372036854775808) : bits .xor .i64 (a : Int) (b : Int) = ((a ^^^ b : Nat) : Int) := by
  have hx : a ^^^ b < 2 ^ 63 := Nat.xor_lt_two_pow (by omega) (by omega)
  have h1 : (BitVec.ofInt 64 (a : Int)).toNat = a := by
    rw [BitVec.ofInt_natCast, BitVec.toNat_ofNat]; exact Nat.mod_eq_of_lt (by omega)
  have h2 : (BitVec.ofInt 64 (b : Int)).toNat = b := by
    rw [BitVec.ofInt_natCast, BitVec.toNat_ofNat]; exact Nat.mod_eq_of_lt (by omega)
  show IntKind.i64.wrap ((BitVec.ofInt 64 (a : Int) ^^^ BitVec.ofInt 64 (b : Int)).toNat : Int) = _
  rw [BitVec.toNat_xor, h1, h2, IntKind.wrap_i64]
  omega

theorem xor_nn (x y : Int) (hx : 0 ≤ x) (hx' : x < 9223372036854775808) (hy : 0 ≤ y) (hy' : y < 9223372036854775808) : 0 ≤ bits .xor .i64 x y := by
  obtain ⟨a, rfl⟩ := Int.eq_ofNat_of_zero_le hx
  obtain ⟨b, rfl⟩ := Int.eq_ofNat_of_zero_le hy
  rw [xor_i64 a b (by omega) (by omega)]
  omega

set_option maxRecDepth 100000 in
set_option maxHeartbeats 1000000 in
theorem pick_low (k : Int) (r n : Nat) (w : World) (hrd : Rd w r n) (hn : n ≤ 1000000000) (hk : k < 1) :
    Calls Try.prog 45 #[.pointer (some ⟨r, 0, none⟩), .int .i64 k] w (PickPost k r n w) := by
  obtain ⟨a, len, cap, p, h0, h1, hf, hp0, hp1, hl, hr, hb⟩ := hrd
  have hnx := Lib.hid (rd_next h0 h1 hf hp0 hp1 hl hr hb)
  go_enter Try.func45, Try.ntmps45
  go_wp2_with fail
  go_ret
  exact ⟨0, rfl, Int.le_refl _, fun h => by omega, hnx.out, (Keep.refl _ _ _).setR _ _⟩

set_option maxRecDepth 100000 in
set_option maxHeartbeats 1000000 in
theorem pick_nil (k : Int) (r n : Nat) (w : World) (a : Option Addr) (cap : Nat) (p : Int) (h0 : w.cell? ⟨r, 0, none⟩ = some (.slice a 0 cap)) (h1 : w.cell? ⟨r, 1, none⟩ = some (.int .i64 p)) (hf : w.frozen? ⟨r, 1, none⟩ = false)
    (hp0 : 0 ≤ p) (hp1 : p ≤ n) (hr : r < w.heap.size) (hb : Bytes w r a 0) (hn : n ≤ 1000000000) (hk : 1 ≤ k) :
    Calls Try.prog 45 #[.pointer (some ⟨r, 0, none⟩), .int .i64 k] w (PickPost k r n w) := by
  have hnx := Lib.hid (rd_next h0 h1 hf hp0 hp1 (by omega) hr hb)
  go_enter Try.func45, Try.ntmps45
  go_wp2_with fail
  go_ret
  exact ⟨0, rfl, Int.le_refl _, fun h => by omega, hnx.out, (Keep.refl _ _ _).setR _ _⟩

set_option maxRecDepth 100000 in
set_option maxHeartbeats 1000000 in
theorem pick_at (k : Int) (r n : Nat) (w : World) (len cap : Nat) (p b off : Nat) (h0 : w.cell? ⟨r, 0, none⟩ = some (.slice (some ⟨b, off, none⟩) len cap)) (h1 : w.cell? ⟨r, 1, none⟩ = some (.int .i64 p)) (hf : w.frozen? ⟨r, 1, none⟩ = false)
    (hp1 : p ≤ n) (hl : len ≤ 2000) (hr : r < w.heap.size) (hb : Bytes w r (some ⟨b, off, none⟩) len) (hn : n ≤ 1000000000) (hbr : b < r) (hk : 1 ≤ k) (hpl : p < len) (z : Int) (hz : w.cell? ⟨b, off + p, none⟩ = some (.int .u8 z)) (hz0 : 0 ≤ z) (hz1 : z ≤ 255) :
    Calls Try.prog 45 #[.pointer (some ⟨r, 0, none⟩), .int .i64 k] w (PickPost k r n w) := by
  have hnx := Lib.hid (rd_next (n := n) h0 h1 hf (by omega) (by omega) hl hr hb)
  have hne : ((len : Int) == 0) = false := by simp; omega
  go_enter Try.func45, Try.ntmps45
  go_wp2_with fail
  go_ret
  exact ⟨z % k, rfl, Int.emod_nonneg _ (by omega), fun h => Int.emod_lt_of_pos _ (by omega), hnx.out, (Keep.refl _ _ _).setR _ _⟩

set_option maxRecDepth 100000 in
set_option maxHeartbeats 1000000 in
theorem pick_past (k : Int) (r n : Nat) (w : World) (len cap : Nat) (p : Int) (b off : Nat) (h0 : w.cell? ⟨r, 0, none⟩ = some (.slice (some ⟨b, off, none⟩) len cap)) (h1 : w.cell? ⟨r, 1, none⟩ = some (.int .i64 p)) (hf : w.frozen? ⟨r, 1, none⟩ = false)
    (hp0 : 0 ≤ p) (hp1 : p ≤ n) (hl : len ≤ 2000) (hr : r < w.heap.size) (hb : Bytes w r (some ⟨b, off, none⟩) len) (hn : n ≤ 1000000000) (hl0 : 0 < len) (hbr : b < r) (hk : 1 ≤ k) (hpl : len ≤ p) (z1 z2 : Int) (hz1 : w.cell? ⟨b, off + (p % len).toNat, none⟩ = some (.int .u8 z1)) (hz2 : w.cell? ⟨b, off + ((p * 7 + 3) % len).toNat, none⟩ = some (.int .u8 z2)) (hz : 0 ≤ z1 ∧ z1 ≤ 255 ∧ 0 ≤ z2 ∧ z2 ≤ 255) :
    Calls Try.prog 45 #[.pointer (some ⟨r, 0, none⟩), .int .i64 k] w (PickPost k r n w) := by
  have hnx := Lib.hid (rd_next h0 h1 hf hp0 hp1 hl hr hb)
  have hne : ((len : Int) == 0) = false := by simp; omega
  have c1 : p.tmod len = p % len := Int.tmod_eq_emod_of_nonneg hp0
  have c2 : IntKind.i64.wrap (p * 7) = p * 7 := IntWalk.i64_in _ (by omega)
  have c3 : IntKind.i64.wrap (p * 7 + 3) = p * 7 + 3 := IntWalk.i64_in _ (by omega)
  have c4 : (p * 7 + 3).tmod len = (p * 7 + 3) % len := Int.tmod_eq_emod_of_nonneg (by omega)
  have c5 : 0 ≤ p % len := Int.emod_nonneg _ (by omega)
  have c6 : p % len < len := Int.emod_lt_of_pos _ (by omega)
  have c7 : 0 ≤ (p * 7 + 3) % len := Int.emod_nonneg _ (by omega)
  have c8 : (p * 7 + 3) % len < len := Int.emod_lt_of_pos _ (by omega)
  have c9 : 0 ≤ p / len := Int.ediv_nonneg hp0 (by omega)
  have c10 : p / len ≤ 1000000000 := Int.le_trans (Int.ediv_le_self _ hp0) (by omega)
  have c11 : IntKind.i64.wrap (p / len * 53) = p / len * 53 := IntWalk.i64_in _ (by omega)
  have c12 : IntKind.i64.wrap (z1 * 131 + z2 * 1117 + p * 29 + p / len * 53) = z1 * 131 + z2 * 1117 + p * 29 + p / len * 53 := IntWalk.i64_in _ (by omega)
  have c13 : 0 ≤ z1 * 131 + z2 * 1117 + p * 29 + p / len * 53 := by omega
  have c14 := Lib.hid (xor_nn (z1 * 131 + z2 * 1117 + p * 29 + p / len * 53) ((z1 * 131 + z2 * 1117 + p * 29 + p / len * 53) / 64) c13 (by omega) (by omega) (by omega))
  go_enter Try.func45, Try.ntmps45
  go_wp2_with fail
  go_quiet (fail)
  go_wp2_with fail
  go_ret
  exact ⟨_, rfl, Int.tmod_nonneg _ c14.out, fun h => Int.tmod_lt_of_pos _ (by omega), hnx.out.drewN _, ((Keep.refl _ _ _).setR _ _).drewN _⟩

/-- PICK: a number from 0 to k-1 (0 if k is less than 1); the place goes on by one; all else is as it was. -/
theorem pick_any (k : Int) (r n : Nat) (w : World) (hrd : Rd w r n) (hn : n ≤ 1000000000) :
    Calls Try.prog 45 #[.pointer (some ⟨r, 0, none⟩), .int .i64 k] w (PickPost k r n w) := by
  by_cases hk : k < 1
  · exact pick_low k r n w hrd hn hk
  · obtain ⟨a, len, cap, p, h0, h1, hf, hp0, hp1, hl, hr, hb⟩ := hrd
    have hb' := hb
    rcases hb' with rfl | ⟨b, off, rfl, hbr, hc⟩
    · exact pick_nil k r n w a cap p h0 h1 hf hp0 hp1 hr hb hn (by omega)
    · by_cases hz : len = 0
      · subst hz
        exact pick_nil k r n w _ cap p h0 h1 hf hp0 hp1 hr hb hn (by omega)
      · by_cases hpl : p < len
        · obtain ⟨q, rfl⟩ := Int.eq_ofNat_of_zero_le hp0
          obtain ⟨z, z0, z1, hz⟩ := hc q (by omega)
          exact pick_at k r n w len cap q b off h0 h1 hf (by omega) hl hr hb hn hbr (by omega) (by omega) z hz z0 z1
        · have c5 : 0 ≤ p % len := Int.emod_nonneg _ (by omega)
          have c6 : p % len < len := Int.emod_lt_of_pos _ (by omega)
          have c7 : 0 ≤ (p * 7 + 3) % len := Int.emod_nonneg _ (by omega)
          have c8 : (p * 7 + 3) % len < len := Int.emod_lt_of_pos _ (by omega)
          obtain ⟨z1, a1, a2, hz1⟩ := hc (p % len).toNat (by omega)
          obtain ⟨z2, b1, b2, hz2⟩ := hc ((p * 7 + 3) % len).toNat (by omega)
          exact pick_past k r n w len cap p b off h0 h1 hf hp0 hp1 hl hr hb hn (by omega) hbr (by omega) (by omega) z1 z2 hz1 hz2 ⟨a1, a2, b1, b2⟩
end Go.Proofs.Ytbklkhndjckckaa

/- A reader is opened; codes that came in. -/
namespace Go.Proofs.Ytbklkhndjckckaa
open Go.RowKit
set_option linter.unusedVariables false

/-- A code that came in: its bytes lie in old memory. -/
def CodeIn (w : World) (a : Option Addr) (len cap : Nat) : Prop := len ≤ cap ∧ Bytes w w.heap.size a len

/-- What l6Open leaves. -/
def OpenPost (w : World) (e : Ending) (w' : World) : Prop :=
  ∃ r : Nat, e = .returned (.pointer (some ⟨r, 0, none⟩)) ∧ w.heap.size ≤ r ∧ Rd w' r 0 ∧ Below w.heap.size w w'

theorem rd_new (w : World) (a : Option Addr) (len cap : Nat) (hl : len ≤ 2000) (hb : Bytes w w.heap.size a len) (t : TypeId) : Rd (w.alloc (.cells #[.slice a len cap, .int .i64 0] t)) w.heap.size 0 :=
  ⟨a, len, cap, 0, by go_simp, by go_simp, by go_simp, Int.le_refl _, by omega, hl, by simp, hb.kept (fun k hk => Below.heap_alloc _ _ _ hk)⟩

theorem open_any (a : Option Addr) (len cap : Nat) (w : World) (hc : CodeIn w a len cap) (hcap : cap ≤ maxLen) :
    Calls Try.prog 31 #[.slice a len cap] w (OpenPost w) := by
  unfold maxLen at hcap
  obtain ⟨hlc, hb⟩ := hc
  by_cases hl : 2000 < len
  · have hb2 : Bytes w w.heap.size a 2000 := by
      rcases hb with rfl | ⟨b, off, e, hb, hc⟩
      · omega
      · exact .inr ⟨b, off, e, hb, fun i hi => hc i (by omega)⟩
    obtain ⟨b, off, rfl, _⟩ : ∃ b off, a = some ⟨b, off, none⟩ ∧ True := by
      rcases hb with rfl | ⟨b, off, e, hb, hc⟩
      · omega
      · exact ⟨b, off, e, trivial⟩
    have hn := Lib.hid (rd_new w (some ⟨b, off, none⟩) 2000 cap (Nat.le_refl _) hb2 84)
    clear hb hb2
    go_enter Try.func31, Try.ntmps31
    go_wp2_with fail
    go_ret
    exact ⟨_, rfl, Nat.le_refl _, hn.out, (Below.refl _ _).alloc (Nat.le_refl _) _⟩
  · have hn := Lib.hid (rd_new w a len cap (by omega) hb 84)
    clear hb
    go_enter Try.func31, Try.ntmps31
    go_wp2_with fail
    go_ret
    exact ⟨_, rfl, Nat.le_refl _, hn.out, (Below.refl _ _).alloc (Nat.le_refl _) _⟩

theorem Bytes.up {w w' : World} {r r' : Nat} {a : Option Addr} {len : Nat} (h : Bytes w r a len) (hr : r ≤ r') (hb : Below r w w') : Bytes w' r' a len := by
  rcases h.kept (w' := w') (fun k hk => hb.block k hk) with h | ⟨b, off, e, hb, hc⟩
  · exact .inl h
  · exact .inr ⟨b, off, e, by omega, hc⟩

/-- A code is a code still where elder memory is as it was. -/
theorem CodeIn.up {w w' : World} {a : Option Addr} {len cap : Nat} (h : CodeIn w a len cap) (hb : Below w.heap.size w w') : CodeIn w' a len cap :=
  ⟨h.1, h.2.up hb.size hb⟩
theorem row_keep {w w' : World} {r base n size : Nat} {t : TypeId} {v : Value} {xs : List Value} (h : w.ownsRow base t size v n xs) (hk : Keep w.heap.size r w w') (hr : r < base) : w'.ownsRow base t size v n xs :=
  h.kept (row := some r) ⟨hk.os, hk.tape, hk.output, hk.size, fun k h1 h2 => hk.block k h1 (fun e => h2 (by rw [e]))⟩ (by
    cases hv : v.ownBlock with
    | none => exact .inl rfl
    | some k =>
      have := (h.lt k hv).1
      exact .inr (by intro e; injection e with e; omega))
end Go.Proofs.Ytbklkhndjckckaa

/- What the frames of all proofs use: the program's own knob, the layout, a code that came in. -/
namespace Go.Proofs.Ytbklkhndjckckaa
open Go.ChangeShapes Go.WideShapes Go.ChangeAt Go.RowKit Go.Joins
set_option linter.unusedVariables false

theorem own : ownKnob Try.prog.godebug = none := by kernel_rfl
theorem laidOut : laidOutB Try.prog = true := by kernel_rfl
theorem cells_lawsId : Try.prog.cellsOf 44 = 2 := by kernel_rfl

theorem code_of_row {w : World} {x : Addr} {len cap : Nat} {zs : List Int} (hl : len ≤ cap) (hz : zs.length = cap) (hcell : ∀ i, i < zs.length → w.cell? (x.add i) = some (.int .u8 (zs.getD i 0))) (hwz : ∀ n ∈ zs, (Lit.int .u8 n).wf = true) :
    CodeIn w (some x) len cap := by
  refine ⟨hl, ?_⟩
  by_cases h0 : len = 0
  · exact .inl h0
  · obtain ⟨b, off, spot⟩ := x
    have hc := hcell 0 (by omega)
    have hspot : spot = none := by simpa [Addr.add] using World.cell?_spot hc
    subst hspot
    refine .inr ⟨b, off, rfl, ?_, fun i hi => ?_⟩
    · have := World.block_lt_of_cell? w _ hc
      simpa [Addr.add] using this
    · have h1 := hcell i (by omega)
      have h2 : (Lit.int .u8 (zs.getD i 0)).wf = true := by
        rw [List.getD_eq_getElem?_getD, List.getElem?_eq_getElem (by omega)]
        exact hwz _ (List.getElem_mem _)
      have h3 : 0 ≤ zs.getD i 0 ∧ zs.getD i 0 ≤ 255 := by simpa [Lit.wf, IntKind.min, IntKind.max, IntKind.signed, IntKind.bits] using h2
      exact ⟨zs.getD i 0, h3.1, h3.2, by
        have e : (⟨b, off, none⟩ : Addr).add i = ⟨b, off + i, none⟩ := by unfold Addr.add; split <;> simp_all
        rw [e] at h1; exact h1⟩
end Go.Proofs.Ytbklkhndjckckaa

/- What the frames of laws over slices of ids use. -/
namespace Go.Proofs.Ytbklkhndjckckaa
open Go.ChangeShapes Go.WideShapes Go.ChangeAt Go.RowKit Go.Joins Go.Deep
set_option linter.unusedVariables false

/-- What a law is told of a slice of ids that came in. -/
def IdsIn (w : World) (a : Option Addr) (len cap : Nat) : Prop := len ≤ maxLen ∧ (1048576 < len ∨ ∃ C, Ids w (.slice a len cap) C)

theorem ids_of_fn {w : World} {x : Addr} {len cap : Nat} (f : Nat → Pid) (hl : len ≤ cap) (hm : cap ≤ maxLen)
    (h : ∀ i, i < len → w.cell? (x.add (i * 2)) = some (.int .i64 (f i).1) ∧ w.cell? (x.add (i * 2 + 1)) = some (.int .i64 (f i).2)) :
    IdsIn w (some x) len cap := by
  refine ⟨Nat.le_trans hl hm, ?_⟩
  by_cases hb : 1048576 < len
  · exact .inl hb
  · have hlen : ((List.range len).map f).length = len := by simp
    refine .inr ⟨(List.range len).map f, some x, cap, by rw [hlen], by omega, by omega, ?_⟩
    rw [hlen]
    by_cases h0 : len = 0
    · exact .inl h0
    · obtain ⟨b, off, spot⟩ := x
      have hc := (h 0 (by omega)).1
      have hspot : spot = none := by simpa [Addr.add] using World.cell?_spot hc
      subst hspot
      have ea : ∀ j, (⟨b, off, none⟩ : Addr).add j = ⟨b, off + j, none⟩ := fun j => by unfold Addr.add; split <;> simp_all
      refine .inr ⟨b, off, rfl, ?_, fun i hi => ?_⟩
      · have := World.block_lt_of_cell? w _ hc
        simpa [Addr.add] using this
      · have h1 := h i hi
        rw [ea, ea] at h1
        have hg : ((List.range len).map f).getD i nop = f i := by
          rw [List.getD_eq_getElem?_getD, List.getElem?_map, List.getElem?_range hi]; rfl
        rw [hg, Nat.add_assoc]
        exact h1

theorem int_of_trodP {H : Type} {enc : TypeId × Value → H} {w : World} {base : Nat} {spare : Nat → Bool} {held : Bool} {n : Nat} {v : Value} {y : DataW H × List MemPlace} (h : DataW.trod enc Try.prog w base spare held n 3 [v] = some y) : ∃ z, v = .int .i64 z := by obtain ⟨z, e, _, _⟩ := DataW.trod_int Try.underlying3 h; simp at e; exact ⟨z, e⟩

set_option maxRecDepth 100000 in
theorem ids_of_trod {H : Type} {enc : TypeId × Value → H} {w : World} {fuel : Nat} {a : Option Addr} {len cap : Nat} {x : DataW H × List MemPlace} (h : DataW.trod enc Try.prog w 0 (fun _ => true) true fuel 76 [.slice a len cap] = some x) : IdsIn w a len cap := by
  rcases open_slice Try.underlying76 h with ⟨hcs, _⟩ | ⟨a', len', cap', m, n, D, Pl, hcs, _, hl, hm, hmm, _, hx⟩
  · simp at hcs
    obtain ⟨rfl, rfl, rfl⟩ := hcs
    exact ⟨Nat.zero_le _, .inr ⟨[], none, 0, rfl, Nat.le_refl _, Nat.zero_le _, .inl rfl⟩⟩
  · simp at hcs
    obtain ⟨rfl, rfl, rfl⟩ := hcs
    simp at hmm
    subst hmm
    have each : ∀ i, i < len → ∃ c : Pid, w.cell? (a'.add (i * 2)) = some (.int .i64 c.1) ∧ w.cell? (a'.add (i * 2 + 1)) = some (.int .i64 c.2) := by
      intro i hi
      obtain ⟨cs', h1, h2⟩ := hx i (by omega)
      rw [cells_lawsId] at h1
      obtain ⟨_, hlen, hcell⟩ := World.cells?_some h1
      obtain ⟨xs, k, hk, hxy, _, hxl, hf⟩ := DataW.trod_struct Try.underlying44 h2
      match xs, hxl, cs', hlen with
      | [y0, y1], _, [v0, v1], _ =>
        have g0 := hf 0 _ rfl
        have g1 := hf 1 _ rfl
        have ci : Try.prog.cellsOf 3 = 1 := by kernel_rfl
        simp [ci] at g0 g1
        obtain ⟨z0, rfl⟩ := int_of_trodP g0
        obtain ⟨z1, rfl⟩ := int_of_trodP g1
        have e0 := hcell 0 (by omega)
        have e1 := hcell 1 (by omega)
        rw [add_add] at e0 e1
        exact ⟨(z0, z1), by simpa using e0, by simpa using e1⟩
    haveI : Inhabited Pid := ⟨nop⟩
    obtain ⟨f, hf⟩ := choose_lt (α := Pid) each
    exact ids_of_fn f hl hm hf
end Go.Proofs.Ytbklkhndjckckaa

/- What the frames of laws over slices of nodes use. -/
namespace Go.Proofs.Ytbklkhndjckckaa
open Go.ChangeShapes Go.WideShapes Go.ChangeAt Go.RowKit Go.Joins Go.Deep
set_option linter.unusedVariables false

theorem lns_of_fn {w : World} {x : Addr} {len cap : Nat} (hl : len ≤ cap) (hm : cap ≤ maxLen)
    (h : ∀ i, i < len → ∃ (p r s : Int) (ua : Option Addr) (un uc : Nat), w.cell? (x.add (i * 4)) = some (.int .i64 p) ∧ w.cell? (x.add (i * 4 + 1)) = some (.int .i64 r) ∧ w.cell? (x.add (i * 4 + 2)) = some (.int .i64 s) ∧ w.cell? (x.add (i * 4 + 3)) = some (.slice ua un uc) ∧ un ≤ maxLen ∧ (1048576 < un ∨ ∃ C, Ids w (.slice ua un uc) C)) :
    LNs w (some x) len cap := by
  refine ⟨Nat.le_trans hl hm, hl, ?_⟩
  by_cases h0 : len = 0
  · exact .inl h0
  · obtain ⟨b, off, spot⟩ := x
    obtain ⟨_, _, _, _, _, _, hc, _⟩ := h 0 (by omega)
    have hspot : spot = none := by simpa [Addr.add] using World.cell?_spot hc
    subst hspot
    have ea : ∀ j, (⟨b, off, none⟩ : Addr).add j = ⟨b, off + j, none⟩ := fun j => by unfold Addr.add; split <;> simp_all
    refine .inr ⟨b, off, rfl, ?_, fun i hi => ?_⟩
    · have := World.block_lt_of_cell? w _ hc
      simpa [Addr.add] using this
    · have h1 := h i hi
      rw [ea, ea, ea, ea] at h1
      exact h1

set_option maxRecDepth 100000 in
theorem id_of_trod {H : Type} {enc : TypeId × Value → H} {w : World} {base : Nat} {spare : Nat → Bool} {held : Bool} {n : Nat} {v0 v1 : Value} {y : DataW H × List MemPlace} (h : DataW.trod enc Try.prog w base spare held n 44 [v0, v1] = some y) : ∃ p r, v0 = .int .i64 p ∧ v1 = .int .i64 r := by
  obtain ⟨xs, k, hk, hxy, _, hxl, hf⟩ := DataW.trod_struct Try.underlying44 h
  match xs, hxl with
  | [y0, y1], _ =>
    have g0 := hf 0 _ rfl
    have g1 := hf 1 _ rfl
    have ci : Try.prog.cellsOf 3 = 1 := by kernel_rfl
    simp [ci] at g0 g1
    obtain ⟨z0, rfl⟩ := int_of_trodP g0
    obtain ⟨z1, rfl⟩ := int_of_trodP g1
    exact ⟨z0, z1, rfl, rfl⟩

theorem idsv_of_trod {H : Type} {enc : TypeId × Value → H} {w : World} {fuel : Nat} {v : Value} {x : DataW H × List MemPlace} (h : DataW.trod enc Try.prog w 0 (fun _ => true) true fuel 76 [v] = some x) : ∃ ua un uc, v = .slice ua un uc ∧ IdsIn w ua un uc := by
  rcases open_slice Try.underlying76 h with ⟨hcs, _⟩ | ⟨a', len', cap', m, n, D, Pl, hcs, _⟩
  · simp at hcs
    subst hcs
    exact ⟨_, _, _, rfl, ids_of_trod h⟩
  · simp at hcs
    subst hcs
    exact ⟨_, _, _, rfl, ids_of_trod h⟩

set_option maxRecDepth 100000 in
theorem lns_of_trod {H : Type} {enc : TypeId × Value → H} {w : World} {fuel : Nat} {a : Option Addr} {len cap : Nat} {x : DataW H × List MemPlace} (h : DataW.trod enc Try.prog w 0 (fun _ => true) true fuel 39 [.slice a len cap] = some x) : LNs w a len cap := by
  rcases open_slice Try.underlying39 h with ⟨hcs, _⟩ | ⟨a', len', cap', m, n, D, Pl, hcs, _, hl, hm, hmm, _, hx⟩
  · simp at hcs
    obtain ⟨rfl, rfl, rfl⟩ := hcs
    exact ⟨Nat.zero_le _, Nat.le_refl _, .inl rfl⟩
  · simp at hcs
    obtain ⟨rfl, rfl, rfl⟩ := hcs
    simp at hmm
    subst hmm
    refine lns_of_fn hl hm fun i hi => ?_
    obtain ⟨cs', h1, h2⟩ := hx i (by omega)
    have cn : Try.prog.cellsOf 78 = 4 := by kernel_rfl
    rw [cn] at h1
    obtain ⟨_, hlen, hcell⟩ := World.cells?_some h1
    obtain ⟨xs, k, hk, hxy, _, hxl, hf⟩ := DataW.trod_struct Try.underlying78 h2
    match xs, hxl, cs', hlen with
    | [y0, y1, y2], _, [v0, v1, v2, v3], _ =>
      have g0 := hf 0 _ rfl
      have g1 := hf 1 _ rfl
      have g2 := hf 2 _ rfl
      have ci : Try.prog.cellsOf 3 = 1 := by kernel_rfl
      have cs : Try.prog.cellsOf 76 = 1 := by kernel_rfl
      simp [ci, cs, cells_lawsId] at g0 g1 g2
      obtain ⟨p, r, rfl, rfl⟩ := id_of_trod g0
      obtain ⟨s, rfl⟩ := int_of_trodP g1
      obtain ⟨ua, un, uc, rfl, hu1, hu2⟩ := idsv_of_trod g2
      have e0 := hcell 0 (by omega)
      have e1 := hcell 1 (by omega)
      have e2 := hcell 2 (by omega)
      have e3 := hcell 3 (by omega)
      rw [add_add] at e0 e1 e2 e3
      exact ⟨p, r, s, ua, un, uc, by simpa using e0, by simpa using e1, by simpa using e2, by simpa using e3, hu1, hu2⟩
end Go.Proofs.Ytbklkhndjckckaa
