/- Texts laid together. -/
import Derived.Test.YtbklkhndjckckaaC01
import Derived.Deep.RegionWith
import Derived.Test.YtbklkhndjckckaaC04
import Derived.Test.YtbklkhndjckckaaC02
import Derived.Deep.RegionHeld3
import Derived.Test.YtbklkhndjckckaaC05
/- The model's l3Has. -/
namespace Go.Proofs.Ytbklkhndjckckaa
open Go.RowKit
set_option linter.unusedVariables false

theorem has_t {L : List Pid} {k : Nat} {a : Pid} (hk : k < L.length) (h : L.getD k nop = a) : hasP L a = true := by
  unfold hasP
  rw [decide_eq_true_iff, ← h, List.getD_eq_getElem?_getD, List.getElem?_eq_getElem hk]
  exact List.getElem_mem _
theorem has_f {L : List Pid} {a : Pid} (h : ∀ j, j < L.length → ¬ L.getD j nop = a) : hasP L a = false := by
  unfold hasP
  rw [decide_eq_false_iff_not]
  intro hm
  obtain ⟨i, hi, e⟩ := List.getElem_of_mem hm
  refine h i hi ?_
  rw [List.getD_eq_getElem?_getD, List.getElem?_eq_getElem hi]
  exact e
theorem pid_eq {c : Pid} {x y : Int} : c = (x, y) ↔ c.1 = x ∧ c.2 = y := by
  obtain ⟨p, q⟩ := c
  simp

set_option maxRecDepth 100000 in
set_option maxHeartbeats 2000000 in
theorem shas_at (b off ca : Nat) (L : List Pid) (x y : Int) (w : World) (hb : b < w.heap.size) (hm : L.length ≤ 2000000) (h : ∀ i, i < L.length → w.cell? ⟨b, off + i * 2, none⟩ = some (.int .i64 (L.getD i nop).1) ∧ w.cell? ⟨b, off + i * 2 + 1, none⟩ = some (.int .i64 (L.getD i nop).2)) :
    Calls Try.prog 42 #[.slice (some ⟨b, off, none⟩) L.length ca, .agg #[.int .i64 x, .int .i64 y]] w fun e w' => e = .returned (.bool (hasP L (x, y))) ∧ Below w.heap.size w w' := by
  have h := Lib.hid h
  obtain ⟨n, hn⟩ : ∃ n, Hid (L.length = n) := ⟨_, Lib.hid rfl⟩
  obtain ⟨q, hq⟩ : ∃ q, Hid (hasP L (x, y) = q) := ⟨_, Lib.hid rfl⟩
  rw [hn.out] at hm ⊢
  rw [hq.out]
  go_enter Try.func42, Try.ntmps42
  go_wp2_with fail
  go_loopw [5] (fun i wr => ∃ k : Nat, k ≤ n ∧ i = .int .i64 k ∧ Hid (∀ j, j < k → ¬ L.getD j nop = (x, y)) ∧ wr.cell? ⟨w.heap.size, 0, none⟩ = some (.int .i64 x) ∧ wr.cell? ⟨w.heap.size, 1, none⟩ = some (.int .i64 y) ∧ Below w.heap.size w wr) (fun i _ => n - (intOf i).toNat)
  case atStart => exact ⟨0, Nat.zero_le _, rfl, Lib.hid (fun j hj => absurd hj (Nat.not_lt_zero _)), by go_simp, by go_simp, (Below.refl _ _).alloc (Nat.le_refl _) _⟩
  case round =>
    obtain ⟨k, hk, rfl, hno, x0, x1, hnx⟩ := hrel
    by_cases hlt : k < n
    · obtain ⟨h0, h1⟩ := h.out k (by rw [hn.out]; exact hlt)
      have q0 := (hnx.cell (p := ⟨b, off + k * 2, none⟩) hb).trans h0
      have q1 := (hnx.cell (p := ⟨b, off + k * 2 + 1, none⟩) hb).trans h1
      clear h0 h1
      obtain ⟨c, hc⟩ : ∃ c, Hid (L.getD k nop = c) := ⟨_, Lib.hid rfl⟩
      rw [hc.out] at q0 q1
      obtain ⟨p, r⟩ := c
      dsimp only at q0 q1
      have hnx := Lib.hid hnx
      clear h
      by_cases e1 : p = x
      · subst e1
        by_cases e2 : r = y
        · subst e2
          have hqt := hq.out
          rw [has_t (by rw [hn.out]; exact hlt) hc.out] at hqt
          subst hqt
          go_wp2_with fail
          go_quiet (fail)
          go_wp2_with fail
          go_ret
          exact ⟨rfl, bdrewN hnx.out _⟩
        · have R := Lib.hid (up_to hno.out (show ¬ L.getD k nop = (p, y) by rw [hc.out]; intro e; exact e2 (congrArg Prod.snd e)))
          go_wp2_with fail
          go_quiet (fail)
          go_wp2_with fail
          go_roundw
          case rel => exact ⟨k + 1, by omega, by go_num, R, by go_simp, by go_simp, bdrewN hnx.out _⟩
          case measure => simp [intOf]; omega
      · have R := Lib.hid (up_to hno.out (show ¬ L.getD k nop = (x, y) by rw [hc.out]; intro e; exact e1 (congrArg Prod.fst e)))
        go_wp2_with fail
        go_quiet (fail)
        go_wp2_with fail
        go_roundw
        case rel => exact ⟨k + 1, by omega, by go_num, R, by go_simp, by go_simp, bdrewN hnx.out _⟩
        case measure => simp [intOf]; omega
    · obtain rfl : k = n := by omega
      have hqf := hq.out
      rw [has_f (fun j hj => hno.out j (by rw [← hn.out]; exact hj))] at hqf
      subst hqf
      have hnx := Lib.hid hnx
      clear h
      go_wp2_with fail
      go_ret
      exact ⟨rfl, hnx.out⟩

theorem shas_nil (a : Option Addr) (ca : Nat) (x y : Int) (w : World) :
    Calls Try.prog 42 #[.slice a 0 ca, .agg #[.int .i64 x, .int .i64 y]] w fun e w' => e = .returned (.bool (hasP [] (x, y))) ∧ Below w.heap.size w w' := by
  rw [show hasP [] (x, y) = false from rfl]
  go_enter Try.func42, Try.ntmps42
  go_wp2_with fail
  refine wp_loop_rounds 1 ?_
  rw [rounds_succ]
  go_wp2_with fail
  go_ret
  exact ⟨rfl, (Below.refl _ _).alloc (Nat.le_refl _) _⟩

theorem shas_any (u : Value) (L : List Pid) (x y : Int) (w : World) (h : Ids w u L) :
    Calls Try.prog 42 #[u, .agg #[.int .i64 x, .int .i64 y]] w fun e w' => e = .returned (.bool (hasP L (x, y))) ∧ Below w.heap.size w w' := by
  obtain ⟨a, cap, rfl, h1, h2, h3⟩ := h
  rcases h3 with h3 | ⟨b, off, rfl, h4, h5⟩
  · obtain rfl : L = [] := List.length_eq_zero_iff.1 h3
    exact shas_nil a cap x y w
  · exact shas_at b off cap L x y w h4 h2 h5
end Go.Proofs.Ytbklkhndjckckaa

/- slices.Index and slices.Contains at ids. -/
namespace Go.Proofs.Ytbklkhndjckckaa
open Go.RowKit
set_option linter.unusedVariables false

set_option maxRecDepth 100000 in
set_option maxHeartbeats 2000000 in
theorem idx_at (b off ca : Nat) (L : List Pid) (x y : Int) (w : World) (hb : b < w.heap.size) (hm : L.length ≤ 2000000) (h : ∀ i, i < L.length → w.cell? ⟨b, off + i * 2, none⟩ = some (.int .i64 (L.getD i nop).1) ∧ w.cell? ⟨b, off + i * 2 + 1, none⟩ = some (.int .i64 (L.getD i nop).2)) :
    Calls Try.prog 73 #[.slice (some ⟨b, off, none⟩) L.length ca, .agg #[.int .i64 x, .int .i64 y]] w fun e w' => (∃ z : Int, e = .returned (.int .i64 z) ∧ decide (0 ≤ z) = hasP L (x, y)) ∧ Below w.heap.size w w' := by
  have h := Lib.hid h
  obtain ⟨n, hn⟩ : ∃ n, Hid (L.length = n) := ⟨_, Lib.hid rfl⟩
  obtain ⟨q, hq⟩ : ∃ q, Hid (hasP L (x, y) = q) := ⟨_, Lib.hid rfl⟩
  rw [hn.out] at hm ⊢
  rw [hq.out]
  go_enter Try.func73, Try.ntmps73
  go_wp2_with fail
  go_loopw [8] (fun i wr => ∃ k : Nat, k ≤ n ∧ i = .int .i64 k ∧ Hid (∀ j, j < k → ¬ L.getD j nop = (x, y)) ∧ wr.cell? ⟨w.heap.size, 0, none⟩ = some (.int .i64 x) ∧ wr.cell? ⟨w.heap.size, 1, none⟩ = some (.int .i64 y) ∧ Below w.heap.size w wr) (fun i _ => n - (intOf i).toNat)
  case atStart => exact ⟨0, Nat.zero_le _, rfl, Lib.hid (fun j hj => absurd hj (Nat.not_lt_zero _)), by go_simp, by go_simp, (Below.refl _ _).alloc (Nat.le_refl _) _⟩
  case round =>
    obtain ⟨k, hk, rfl, hno, x0, x1, hnx⟩ := hrel
    by_cases hlt : k < n
    · obtain ⟨h0, h1⟩ := h.out k (by rw [hn.out]; exact hlt)
      have q0 := (hnx.cell (p := ⟨b, off + k * 2, none⟩) hb).trans h0
      have q1 := (hnx.cell (p := ⟨b, off + k * 2 + 1, none⟩) hb).trans h1
      clear h0 h1
      obtain ⟨c, hc⟩ : ∃ c, Hid (L.getD k nop = c) := ⟨_, Lib.hid rfl⟩
      rw [hc.out] at q0 q1
      obtain ⟨p, r⟩ := c
      dsimp only at q0 q1
      have hnx := Lib.hid hnx
      clear h
      by_cases e1 : p = x
      · subst e1
        by_cases e2 : r = y
        · subst e2
          have hqt := hq.out
          rw [has_t (by rw [hn.out]; exact hlt) hc.out] at hqt
          subst hqt
          go_wp2_with fail
          go_quiet (fail)
          go_wp2_with fail
          go_ret
          exact ⟨⟨_, rfl, by simp⟩, bdrewN hnx.out _⟩
        · have R := Lib.hid (up_to hno.out (show ¬ L.getD k nop = (p, y) by rw [hc.out]; intro e; exact e2 (congrArg Prod.snd e)))
          go_wp2_with fail
          go_quiet (fail)
          go_wp2_with fail
          go_roundw
          case rel => exact ⟨k + 1, by omega, by go_num, R, by go_simp, by go_simp, bdrewN hnx.out _⟩
          case measure => simp [intOf]; omega
      · have R := Lib.hid (up_to hno.out (show ¬ L.getD k nop = (x, y) by rw [hc.out]; intro e; exact e1 (congrArg Prod.fst e)))
        go_wp2_with fail
        go_quiet (fail)
        go_wp2_with fail
        go_roundw
        case rel => exact ⟨k + 1, by omega, by go_num, R, by go_simp, by go_simp, bdrewN hnx.out _⟩
        case measure => simp [intOf]; omega
    · obtain rfl : k = n := by omega
      have hqf := hq.out
      rw [has_f (fun j hj => hno.out j (by rw [← hn.out]; exact hj))] at hqf
      subst hqf
      have hnx := Lib.hid hnx
      clear h
      go_wp2_with fail
      go_ret
      exact ⟨⟨_, rfl, by simp⟩, hnx.out⟩

theorem idx_nil (a : Option Addr) (ca : Nat) (x y : Int) (w : World) :
    Calls Try.prog 73 #[.slice a 0 ca, .agg #[.int .i64 x, .int .i64 y]] w fun e w' => (∃ z : Int, e = .returned (.int .i64 z) ∧ decide (0 ≤ z) = hasP [] (x, y)) ∧ Below w.heap.size w w' := by
  rw [show hasP [] (x, y) = false from rfl]
  go_enter Try.func73, Try.ntmps73
  go_wp2_with fail
  refine wp_loop_rounds 1 ?_
  rw [rounds_succ]
  go_wp2_with fail
  go_ret
  exact ⟨⟨_, rfl, by simp⟩, (Below.refl _ _).alloc (Nat.le_refl _) _⟩

theorem idx_any (u : Value) (L : List Pid) (x y : Int) (w : World) (h : Ids w u L) :
    Calls Try.prog 73 #[u, .agg #[.int .i64 x, .int .i64 y]] w fun e w' => (∃ z : Int, e = .returned (.int .i64 z) ∧ decide (0 ≤ z) = hasP L (x, y)) ∧ Below w.heap.size w w' := by
  obtain ⟨a, cap, rfl, h1, h2, h3⟩ := h
  rcases h3 with h3 | ⟨b, off, rfl, h4, h5⟩
  · obtain rfl : L = [] := List.length_eq_zero_iff.1 h3
    exact idx_nil a cap x y w
  · exact idx_at b off cap L x y w h4 h2 h5

theorem cont_any (u : Value) (L : List Pid) (x y : Int) (w : World) (h : Ids w u L) :
    Calls Try.prog 64 #[u, .agg #[.int .i64 x, .int .i64 y]] w fun e w' => e = .returned (.bool (hasP L (x, y))) ∧ Below w.heap.size w w' := by
  have h := Lib.hid h
  obtain ⟨q, hq⟩ : ∃ q, Hid (hasP L (x, y) = q) := ⟨_, Lib.hid rfl⟩
  rw [hq.out]
  go_enter Try.func64, Try.ntmps64
  go_wp2_with fail
  refine (idx_any u L x y _ (h.out.up ((Below.refl _ _).alloc (Nat.le_refl _) _) (Nat.le_refl _))).mono ?_
  rintro e w1 ⟨⟨z, rfl, hz⟩, hb⟩
  have D := Lib.hid (((Below.refl w.heap.size w).alloc (Nat.le_refl _) _).trans (hb.mono (by simp)))
  rw [hq.out] at hz
  clear hb hq h
  go_wp2_with fail
  go_ret
  exact ⟨rfl, D.out⟩
end Go.Proofs.Ytbklkhndjckckaa

/- The program's DepsValid. -/
namespace Go.Proofs.Ytbklkhndjckckaa
open Go.RowKit
set_option linter.unusedVariables false

set_option maxRecDepth 100000 in
set_option maxHeartbeats 1000000 in
theorem ival_any (u : Value) (L : List Pid) (w : World) (h : Ids w u L) :
    Calls Try.prog 63 #[u] w fun e w' => e = .returned (.bool (srtB L)) ∧ Below w.heap.size w w' := by
  have h := Lib.hid h
  go_enter Try.func63, Try.ntmps63
  go_wp2_with fail
  refine (iset_any u L _ h.out).mono ?_
  rintro e w1 ⟨rfl, hb⟩
  have D1 := Lib.hid hb
  clear hb h
  unfold setV
  go_wp2_with fail
  go_ret
  exact ⟨rfl, D1.out.alloc D1.out.size _⟩
end Go.Proofs.Ytbklkhndjckckaa

/- The program's valid of a node. -/
namespace Go.Proofs.Ytbklkhndjckckaa
open Go.RowKit
set_option linter.unusedVariables false

def ndB4 (r n s : Int) (v h : Bool) : Bool := idB r n && (decide (1 ≤ s ∧ s ≤ 99) && (v && !h))

set_option maxRecDepth 100000 in
set_option maxHeartbeats 2000000 in
theorem ndv_any (x : Nd) (u : Value) (w : World) (h : Ids w u x.deps) :
    Calls Try.prog 47 #[ndv x u] w fun e w' => e = .returned (.bool (ndB x)) ∧ Below w.heap.size w w' := by
  obtain ⟨⟨p, r⟩, s, L⟩ := x
  unfold ndv
  dsimp only at h ⊢
  have sv := ivid_any p r
  have sd := fun W (H : Ids W u L) => ival_any u L W H
  have sc := fun W (H : Ids W u L) => cont_any u L p r W H
  obtain ⟨c, hc⟩ : ∃ c, Hid (ndB ⟨(p, r), s, L⟩ = c) := ⟨_, Lib.hid rfl⟩
  rw [hc.out]
  have hc := Lib.hid (show ndB4 p r s (srtB L) (hasP L (p, r)) = c from hc.out)
  obtain ⟨q1, h1⟩ : ∃ q, idB p r = q := ⟨_, rfl⟩
  obtain ⟨q2, h2⟩ : ∃ q, srtB L = q := ⟨_, rfl⟩
  obtain ⟨q3, h3⟩ : ∃ q, hasP L (p, r) = q := ⟨_, rfl⟩
  have hc := hc.out
  unfold ndB4 at hc
  rw [h1] at sv hc
  rw [h2] at hc
  rw [h3] at hc
  rw [h2] at sd
  rw [h3] at sc
  clear h1 h2 h3
  have hI := Lib.hid (h.up ((Below.refl _ _).alloc (Nat.le_refl _) (.cells #[.int .i64 p, .int .i64 r, .int .i64 s, u] 33)) (Nat.le_refl _))
  have hD := Lib.hid ((Below.refl w.heap.size w).alloc (Nat.le_refl _) (.cells #[.int .i64 p, .int .i64 r, .int .i64 s, u] 33))
  obtain ⟨a0, a1, a2, a3⟩ := four_cells (heap_alloc_new w (.cells #[.int .i64 p, .int .i64 r, .int .i64 s, u] 33))
  clear h
  cases q1
  · obtain rfl : false = c := by simpa using hc
    clear hc sd sc hI
    go_enter Try.func47, Try.ntmps47
    go_wp2_with fail
    refine (sv _).mono ?_
    rintro e w1 ⟨rfl, B⟩
    have a0 := cell_later B a0
    have a1 := cell_later B a1
    have a2 := cell_later B a2
    have a3 := cell_later B a3
    have hD := Lib.hid (hD.out.trans (B.mono hD.out.size))
    clear B
    go_wp2_with fail
    go_ret
    exact ⟨rfl, hD.out⟩
  · by_cases hs1 : 1 ≤ s
    · by_cases hs2 : s ≤ 99
      · cases q2
        · obtain rfl : false = c := by simpa using hc
          clear hc sc
          go_enter Try.func47, Try.ntmps47
          go_wp2_with fail
          refine (sv _).mono ?_
          rintro e w1 ⟨rfl, B⟩
          have a0 := cell_later B a0
          have a1 := cell_later B a1
          have a2 := cell_later B a2
          have a3 := cell_later B a3
          have hI := Lib.hid (hI.out.up B (Nat.le_refl _))
          have hD := Lib.hid (hD.out.trans (B.mono hD.out.size))
          go_wp2_with fail
          refine (sd _ hI.out).mono ?_
          rintro e w2 ⟨rfl, B2⟩
          have a0 := cell_later B2 a0
          have a1 := cell_later B2 a1
          have a2 := cell_later B2 a2
          have a3 := cell_later B2 a3
          have hD := Lib.hid (hD.out.trans (B2.mono hD.out.size))
          clear B B2 hI sd sv
          go_wp2_with fail
          go_ret
          exact ⟨rfl, hD.out⟩
        · obtain rfl : (!q3) = c := by simpa [hs1, hs2] using hc
          clear hc
          go_enter Try.func47, Try.ntmps47
          go_wp2_with fail
          refine (sv _).mono ?_
          rintro e w1 ⟨rfl, B⟩
          have a0 := cell_later B a0
          have a1 := cell_later B a1
          have a2 := cell_later B a2
          have a3 := cell_later B a3
          have hI := Lib.hid (hI.out.up B (Nat.le_refl _))
          have hD := Lib.hid (hD.out.trans (B.mono hD.out.size))
          go_wp2_with fail
          refine (sd _ hI.out).mono ?_
          rintro e w2 ⟨rfl, B2⟩
          have a0 := cell_later B2 a0
          have a1 := cell_later B2 a1
          have a2 := cell_later B2 a2
          have a3 := cell_later B2 a3
          have hI := Lib.hid (hI.out.up B2 (Nat.le_refl _))
          have hD := Lib.hid (hD.out.trans (B2.mono hD.out.size))
          go_wp2_with fail
          refine (sc _ hI.out).mono ?_
          rintro e w3 ⟨rfl, B3⟩
          have a0 := cell_later B3 a0
          have a1 := cell_later B3 a1
          have a2 := cell_later B3 a2
          have a3 := cell_later B3 a3
          have hD := Lib.hid (hD.out.trans (B3.mono hD.out.size))
          clear B B2 B3 hI sd sv sc
          go_wp2_with fail
          go_ret
          exact ⟨rfl, hD.out⟩
      · obtain rfl : false = c := by simpa [hs2] using hc
        clear hc sd sc hI
        go_enter Try.func47, Try.ntmps47
        go_wp2_with fail
        refine (sv _).mono ?_
        rintro e w1 ⟨rfl, B⟩
        have a0 := cell_later B a0
        have a1 := cell_later B a1
        have a2 := cell_later B a2
        have a3 := cell_later B a3
        have hD := Lib.hid (hD.out.trans (B.mono hD.out.size))
        go_wp2_with fail
        go_ret
        exact ⟨rfl, hD.out⟩
    · obtain rfl : false = c := by simpa [hs1] using hc
      clear hc sd sc hI
      go_enter Try.func47, Try.ntmps47
      go_wp2_with fail
      refine (sv _).mono ?_
      rintro e w1 ⟨rfl, B⟩
      have a0 := cell_later B a0
      have a1 := cell_later B a1
      have a2 := cell_later B a2
      have a3 := cell_later B a3
      have hD := Lib.hid (hD.out.trans (B.mono hD.out.size))
      go_wp2_with fail
      go_ret
      exact ⟨rfl, hD.out⟩
end Go.Proofs.Ytbklkhndjckckaa

/- The program's NodesValid. -/
namespace Go.Proofs.Ytbklkhndjckckaa
open Go.RowKit
set_option linter.unusedVariables false

set_option maxRecDepth 100000 in
set_option maxHeartbeats 4000000 in
theorem inval_at (b off ca : Nat) (N : List Nd) (w : World) (hb : b < w.heap.size) (hm : N.length ≤ 2000000) (h : ∀ i, i < N.length → NdIn w b (off + i * 4) (N.getD i nd0)) :
    Calls Try.prog 19 #[.slice (some ⟨b, off, none⟩) N.length ca] w fun e w' => e = .returned (.bool (nodB N)) ∧ Below w.heap.size w w' := by
  have h := Lib.hid h
  obtain ⟨n, hn⟩ : ∃ n, Hid (N.length = n) := ⟨_, Lib.hid rfl⟩
  rw [hn.out] at hm ⊢
  obtain ⟨c, hc⟩ : ∃ c, Hid (nodB N = c) := ⟨_, Lib.hid rfl⟩
  rw [hc.out]
  by_cases hl : n ≤ 12
  · have hl' : ¬ 12 < n := by omega
    go_enter Try.func19, Try.ntmps19
    go_wp2_with fail
    go_loopw [10] (fun i wr => ∃ k : Nat, k ≤ n ∧ i = .int .i64 k ∧ Hid ((∀ j, j < k → ndB (N.getD j nd0) = true) ∧ (∀ j, j + 1 < k → ltP (N.getD j nd0).id (N.getD (j + 1) nd0).id = true)) ∧ Below w.heap.size w wr) (fun i _ => n - (intOf i).toNat)
    case atStart => exact ⟨0, Nat.zero_le _, rfl, Lib.hid ⟨fun j hj => absurd hj (Nat.not_lt_zero _), fun j hj => absurd hj (Nat.not_lt_zero _)⟩, Below.refl _ _⟩
    case round =>
      obtain ⟨k, hk, rfl, hS, hnx⟩ := hrel
      by_cases hlt : k < n
      · obtain ⟨x, hx⟩ : ∃ x, Hid (N.getD k nd0 = x) := ⟨_, Lib.hid rfl⟩
        have hI := h.out k (by rw [hn.out]; exact hlt)
        rw [hx.out] at hI
        obtain ⟨ua, un, uc, q0, q1, q2, q3, hI⟩ := hI
        obtain ⟨⟨p, r⟩, s, L⟩ := x
        dsimp only at q0 q1 q2 q3 hI
        have q0 := (hnx.cell (p := ⟨b, off + k * 4, none⟩) hb).trans q0
        have q1 := (hnx.cell (p := ⟨b, off + k * 4 + 1, none⟩) hb).trans q1
        have q2 := (hnx.cell (p := ⟨b, off + k * 4 + 2, none⟩) hb).trans q2
        have q3 := (hnx.cell (p := ⟨b, off + k * 4 + 3, none⟩) hb).trans q3
        have hI := Lib.hid ((hI.up hnx (Nat.le_refl _)).up ((Below.refl _ _).alloc (Nat.le_refl _) (.cells #[.int .i64 p, .int .i64 r, .int .i64 s, .slice ua un uc] 33)) (Nat.le_refl _))
        have nv := fun W (H : Ids W (.slice ua un uc) L) => ndv_any ⟨(p, r), s, L⟩ (.slice ua un uc) W H
        unfold ndv at nv
        dsimp only at nv
        obtain ⟨q, hq⟩ : ∃ q, Hid (ndB ⟨(p, r), s, L⟩ = q) := ⟨_, Lib.hid rfl⟩
        rw [hq.out] at nv
        have A0 := heap_alloc_new wr (.cells #[.int .i64 p, .int .i64 r, .int .i64 s, .slice ua un uc] 33)
        obtain ⟨a0, a1, a2, a3⟩ := four_cells A0
        clear A0
        have hnx0 := Lib.hid hnx
        have hnx := Lib.hid (hnx.alloc hnx.size (.cells #[.int .i64 p, .int .i64 r, .int .i64 s, .slice ua un uc] 33))
        cases q
        · have hR := Lib.hid (nod_bad (N := N) (by rw [hn.out]; exact hlt) (show ndB (N.getD k nd0) = false by rw [hx.out]; exact hq.out))
          obtain rfl : false = c := hR.out.symm.trans hc.out
          clear h hS hc
          go_upto_region 6 with fail
          refine wp_region_held_drew (S := fun w' => w'.cell? ⟨wr.heap.size, 0, none⟩ = some (.int .i64 p) ∧ w'.cell? ⟨wr.heap.size, 1, none⟩ = some (.int .i64 r) ∧ w'.cell? ⟨wr.heap.size, 2, none⟩ = some (.int .i64 s) ∧ w'.cell? ⟨wr.heap.size, 3, none⟩ = some (.slice ua un uc) ∧ Below (wr.alloc (.cells #[.int .i64 p, .int .i64 r, .int .i64 s, .slice ua un uc] 33)).heap.size (wr.alloc (.cells #[.int .i64 p, .int .i64 r, .int .i64 s, .slice ua un uc] 33)) w') (by kernel_rfl) ⟨a0, a1, a2, a3, Below.drew (Below.refl _ _)⟩ (fun hHeld => ?_)
          refine wpAnyH_take (i := 0) (oi := ⟨some 15, _, _, _, _, _⟩) (v := ?_) rfl (by kernel_rfl) (by kernel_rfl) (by kernel_rfl) (fun _ _ _ h => h) (Or.inl ⟨by rfl, ?_⟩) (by assumption) ?_
          rotate_left 1
          · intro w hSw; (try dsimp only at hSw); go_simp; try (with_reducible rfl)
          try simp only [Act.put, List.setIfInBounds_toArray, List.set_cons_zero, List.set_cons_succ]
          refine wpAnyH_ready (rs := [1]) (by kernel_rfl) (by simp) ?_
          refine AllReadyH.cons (o := ⟨some 16, _, _, _, _, _⟩) rfl (fun K hK => ?_) AllReadyH.nil
          go_simp
          refine (nv _ (hI.out.up hHeld.2.2.2.2 (Nat.le_refl _))).mono ?_
          rintro e w2 ⟨rfl, hb⟩
          go_wp2_with fail
          refine hK.out _ _ ?_ (fun hHeld2 => ?_)
          · exact ⟨cell_later hb hHeld.1, cell_later hb hHeld.2.1, cell_later hb hHeld.2.2.1, cell_later hb hHeld.2.2.2.1, hHeld.2.2.2.2.trans (hb.mono hHeld.2.2.2.2.size)⟩
          clear hK K hHeld hb
          have hHeld := hHeld2
          clear hHeld2
          try simp only [Act.put, List.setIfInBounds_toArray, List.set_cons_zero, List.set_cons_succ]
          refine wpAnyH_take (i := 2) (oi := ⟨some 17, _, _, _, _, _⟩) (v := ?_) rfl (by kernel_rfl) (by kernel_rfl) (by kernel_rfl) (fun _ _ _ h => h) (Or.inl ⟨by rfl, ?_⟩) (by assumption) ?_
          rotate_left 1
          · intro w hSw; (try dsimp only at hSw); go_simp; try (with_reducible rfl)
          try simp only [Act.put, List.setIfInBounds_toArray, List.set_cons_zero, List.set_cons_succ]
          refine wpAnyH_take (i := 3) (oi := ⟨some 18, _, _, _, _, _⟩) (v := ?_) rfl (by kernel_rfl) (by kernel_rfl) (by kernel_rfl) (fun _ _ _ h => h) (Or.inl ⟨by rfl, ?_⟩) (by assumption) ?_
          rotate_left 1
          · intro w hSw; (try dsimp only at hSw); go_simp; try (with_reducible rfl)
          try simp only [Act.put, List.setIfInBounds_toArray, List.set_cons_zero, List.set_cons_succ]
          refine wpAnyH_take (i := 4) (oi := ⟨some 19, _, _, _, _, _⟩) (v := undef) rfl (by kernel_rfl) (by kernel_rfl) (by kernel_rfl) (fun _ _ _ h => h) (Or.inr ⟨by rfl, rfl⟩) (by assumption) ?_
          try simp only [Act.put, List.setIfInBounds_toArray, List.set_cons_zero, List.set_cons_succ]
          refine wpAnyH_take (i := 5) (oi := ⟨some 20, _, _, _, _, _⟩) (v := undef) rfl (by kernel_rfl) (by kernel_rfl) (by kernel_rfl) (fun _ _ _ h => h) (Or.inr ⟨by rfl, rfl⟩) (by assumption) ?_
          try simp only [Act.put, List.setIfInBounds_toArray, List.set_cons_zero, List.set_cons_succ]
          refine wpAnyH_take (i := 6) (oi := ⟨some 21, _, _, _, _, _⟩) (v := undef) rfl (by kernel_rfl) (by kernel_rfl) (by kernel_rfl) (fun _ _ _ h => h) (Or.inr ⟨by rfl, rfl⟩) (by assumption) ?_
          try simp only [Act.put, List.setIfInBounds_toArray, List.set_cons_zero, List.set_cons_succ]
          refine wpAnyH_take (i := 7) (oi := ⟨some 22, _, _, _, _, _⟩) (v := undef) rfl (by kernel_rfl) (by kernel_rfl) (by kernel_rfl) (fun _ _ _ h => h) (Or.inr ⟨by rfl, rfl⟩) (by assumption) ?_
          try simp only [Act.put, List.setIfInBounds_toArray, List.set_cons_zero, List.set_cons_succ]
          refine wpAnyH_take (i := 8) (oi := ⟨some 23, _, _, _, _, _⟩) (v := undef) rfl (by kernel_rfl) (by kernel_rfl) (by kernel_rfl) (fun _ _ _ h => h) (Or.inr ⟨by rfl, rfl⟩) (by assumption) ?_
          try simp only [Act.put, List.setIfInBounds_toArray, List.set_cons_zero, List.set_cons_succ]
          refine wpAnyH_take (i := 9) (oi := ⟨some 24, _, _, _, _, _⟩) (v := undef) rfl (by kernel_rfl) (by kernel_rfl) (by kernel_rfl) (fun _ _ _ h => h) (Or.inr ⟨by rfl, rfl⟩) (by assumption) ?_
          try simp only [Act.put, List.setIfInBounds_toArray, List.set_cons_zero, List.set_cons_succ]
          refine wpAnyH_take (i := 10) (oi := ⟨some 25, _, _, _, _, _⟩) (v := undef) rfl (by kernel_rfl) (by kernel_rfl) (by kernel_rfl) (fun _ _ _ h => h) (Or.inr ⟨by rfl, rfl⟩) (by assumption) ?_
          try simp only [Act.put, List.setIfInBounds_toArray, List.set_cons_zero, List.set_cons_succ]
          refine wpAnyH_take (i := 11) (oi := ⟨some 26, _, _, _, _, _⟩) (v := undef) rfl (by kernel_rfl) (by kernel_rfl) (by kernel_rfl) (fun _ _ _ h => h) (Or.inr ⟨by rfl, rfl⟩) (by assumption) ?_
          try simp only [Act.put, List.setIfInBounds_toArray, List.set_cons_zero, List.set_cons_succ]
          refine wpAnyH_take (i := 12) (oi := ⟨some 27, _, _, _, _, _⟩) (v := undef) rfl (by kernel_rfl) (by kernel_rfl) (by kernel_rfl) (fun _ _ _ h => h) (Or.inr ⟨by rfl, rfl⟩) (by assumption) ?_
          try simp only [Act.put, List.setIfInBounds_toArray, List.set_cons_zero, List.set_cons_succ]
          refine wpAnyH_take (i := 13) (oi := ⟨some 28, _, _, _, _, _⟩) (v := undef) rfl (by kernel_rfl) (by kernel_rfl) (by kernel_rfl) (fun _ _ _ h => h) (Or.inr ⟨by rfl, rfl⟩) (by assumption) ?_
          try simp only [Act.put, List.setIfInBounds_toArray, List.set_cons_zero, List.set_cons_succ]
          refine wpAnyH_take (i := 14) (oi := ⟨some 29, _, _, _, _, _⟩) (v := undef) rfl (by kernel_rfl) (by kernel_rfl) (by kernel_rfl) (fun _ _ _ h => h) (Or.inr ⟨by rfl, rfl⟩) (by assumption) ?_
          try simp only [Act.put, List.setIfInBounds_toArray, List.set_cons_zero, List.set_cons_succ]
          refine wpAnyH_take (i := 15) (oi := ⟨some 30, _, _, _, _, _⟩) (v := undef) rfl (by kernel_rfl) (by kernel_rfl) (by kernel_rfl) (fun _ _ _ h => h) (Or.inr ⟨by rfl, rfl⟩) (by assumption) ?_
          try simp only [Act.put, List.setIfInBounds_toArray, List.set_cons_zero, List.set_cons_succ]
          refine wpAnyH_take (i := 16) (oi := ⟨some 31, _, _, _, _, _⟩) (v := undef) rfl (by kernel_rfl) (by kernel_rfl) (by kernel_rfl) (fun _ _ _ h => h) (Or.inr ⟨by rfl, rfl⟩) (by assumption) ?_
          try simp only [Act.put, List.setIfInBounds_toArray, List.set_cons_zero, List.set_cons_succ]
          refine wpAnyH_take (i := 17) (oi := ⟨some 32, _, _, _, _, _⟩) (v := undef) rfl (by kernel_rfl) (by kernel_rfl) (by kernel_rfl) (fun _ _ _ h => h) (Or.inr ⟨by rfl, rfl⟩) (by assumption) ?_
          try simp only [Act.put, List.setIfInBounds_toArray, List.set_cons_zero, List.set_cons_succ]
          refine wpAnyH_take (i := 18) (oi := ⟨some 33, _, _, _, _, _⟩) (v := ?_) rfl (by kernel_rfl) (by kernel_rfl) (by kernel_rfl) (fun _ _ _ h => h) (Or.inl ⟨by rfl, ?_⟩) (by assumption) ?_
          rotate_left 1
          · intro w hSw; (try dsimp only at hSw); go_simp; try (with_reducible rfl)
          try simp only [Act.put, List.setIfInBounds_toArray, List.set_cons_zero, List.set_cons_succ]
          refine wpAnyH_done (by kernel_rfl) ?_ _
          try simp only [Act.put, List.setIfInBounds_toArray, List.set_cons_zero, List.set_cons_succ]
          have D2 := Lib.hid (hnx.out.trans (hHeld.2.2.2.2.mono hnx.out.size))
          clear hHeld hI nv
          go_wp2_with fail
          go_ret
          exact ⟨rfl, D2.out⟩
        · have hok := Lib.hid (up_to hS.out.1 (show ndB (N.getD k nd0) = true by rw [hx.out]; exact hq.out))
          rcases Nat.eq_zero_or_pos k with hk0 | hk0
          · subst hk0
            simp only [Nat.zero_mul, Nat.add_zero] at q0 q1 q2 q3
            clear h hS
            go_upto_region 6 with fail
            refine wp_region_held_drew (S := fun w' => w'.cell? ⟨wr.heap.size, 0, none⟩ = some (.int .i64 p) ∧ w'.cell? ⟨wr.heap.size, 1, none⟩ = some (.int .i64 r) ∧ w'.cell? ⟨wr.heap.size, 2, none⟩ = some (.int .i64 s) ∧ w'.cell? ⟨wr.heap.size, 3, none⟩ = some (.slice ua un uc) ∧ Below (wr.alloc (.cells #[.int .i64 p, .int .i64 r, .int .i64 s, .slice ua un uc] 33)).heap.size (wr.alloc (.cells #[.int .i64 p, .int .i64 r, .int .i64 s, .slice ua un uc] 33)) w') (by kernel_rfl) ⟨a0, a1, a2, a3, Below.drew (Below.refl _ _)⟩ (fun hHeld => ?_)
            refine wpAnyH_take (i := 0) (oi := ⟨some 15, _, _, _, _, _⟩) (v := ?_) rfl (by kernel_rfl) (by kernel_rfl) (by kernel_rfl) (fun _ _ _ h => h) (Or.inl ⟨by rfl, ?_⟩) (by assumption) ?_
            rotate_left 1
            · intro w hSw; (try dsimp only at hSw); go_simp; try (with_reducible rfl)
            try simp only [Act.put, List.setIfInBounds_toArray, List.set_cons_zero, List.set_cons_succ]
            refine wpAnyH_ready (rs := [1]) (by kernel_rfl) (by simp) ?_
            refine AllReadyH.cons (o := ⟨some 16, _, _, _, _, _⟩) rfl (fun K hK => ?_) AllReadyH.nil
            go_simp
            refine (nv _ (hI.out.up hHeld.2.2.2.2 (Nat.le_refl _))).mono ?_
            rintro e w2 ⟨rfl, hb⟩
            go_wp2_with fail
            refine hK.out _ _ ?_ (fun hHeld2 => ?_)
            · exact ⟨cell_later hb hHeld.1, cell_later hb hHeld.2.1, cell_later hb hHeld.2.2.1, cell_later hb hHeld.2.2.2.1, hHeld.2.2.2.2.trans (hb.mono hHeld.2.2.2.2.size)⟩
            clear hK K hHeld hb
            have hHeld := hHeld2
            clear hHeld2
            try simp only [Act.put, List.setIfInBounds_toArray, List.set_cons_zero, List.set_cons_succ]
            refine wpAnyH_take (i := 2) (oi := ⟨some 17, _, _, _, _, _⟩) (v := ?_) rfl (by kernel_rfl) (by kernel_rfl) (by kernel_rfl) (fun _ _ _ h => h) (Or.inl ⟨by rfl, ?_⟩) (by assumption) ?_
            rotate_left 1
            · intro w hSw; (try dsimp only at hSw); go_simp; try (with_reducible rfl)
            try simp only [Act.put, List.setIfInBounds_toArray, List.set_cons_zero, List.set_cons_succ]
            refine wpAnyH_take (i := 3) (oi := ⟨some 18, _, _, _, _, _⟩) (v := ?_) rfl (by kernel_rfl) (by kernel_rfl) (by kernel_rfl) (fun _ _ _ h => h) (Or.inl ⟨by rfl, ?_⟩) (by assumption) ?_
            rotate_left 1
            · intro w hSw; (try dsimp only at hSw); go_simp; try (with_reducible rfl)
            try simp only [Act.put, List.setIfInBounds_toArray, List.set_cons_zero, List.set_cons_succ]
            refine wpAnyH_take (i := 4) (oi := ⟨some 19, _, _, _, _, _⟩) (v := ?_) rfl (by kernel_rfl) (by kernel_rfl) (by kernel_rfl) (fun _ _ _ h => h) (Or.inl ⟨by rfl, ?_⟩) (by assumption) ?_
            rotate_left 1
            · intro w hSw; (try dsimp only at hSw); go_simp; try (with_reducible rfl)
            try simp only [Act.put, List.setIfInBounds_toArray, List.set_cons_zero, List.set_cons_succ]
            refine wpAnyH_take (i := 5) (oi := ⟨some 20, _, _, _, _, _⟩) (v := ?_) rfl (by kernel_rfl) (by kernel_rfl) (by kernel_rfl) (fun _ _ _ h => h) (Or.inl ⟨by rfl, ?_⟩) (by assumption) ?_
            rotate_left 1
            · intro w hSw; (try dsimp only at hSw); go_simp; try (with_reducible rfl)
            try simp only [Act.put, List.setIfInBounds_toArray, List.set_cons_zero, List.set_cons_succ]
            refine wpAnyH_take (i := 6) (oi := ⟨some 21, _, _, _, _, _⟩) (v := ?_) rfl (by kernel_rfl) (by kernel_rfl) (by kernel_rfl) (fun _ _ _ h => h) (Or.inl ⟨by rfl, ?_⟩) (by assumption) ?_
            rotate_left 1
            · intro w hSw; (try dsimp only at hSw); go_simp; try (with_reducible rfl)
            try simp only [Act.put, List.setIfInBounds_toArray, List.set_cons_zero, List.set_cons_succ]
            refine wpAnyH_take (i := 7) (oi := ⟨some 22, _, _, _, _, _⟩) (v := undef) rfl (by kernel_rfl) (by kernel_rfl) (by kernel_rfl) (fun _ _ _ h => h) (Or.inr ⟨by rfl, rfl⟩) (by assumption) ?_
            try simp only [Act.put, List.setIfInBounds_toArray, List.set_cons_zero, List.set_cons_succ]
            refine wpAnyH_take (i := 8) (oi := ⟨some 23, _, _, _, _, _⟩) (v := undef) rfl (by kernel_rfl) (by kernel_rfl) (by kernel_rfl) (fun _ _ _ h => h) (Or.inr ⟨by rfl, rfl⟩) (by assumption) ?_
            try simp only [Act.put, List.setIfInBounds_toArray, List.set_cons_zero, List.set_cons_succ]
            refine wpAnyH_take (i := 9) (oi := ⟨some 24, _, _, _, _, _⟩) (v := undef) rfl (by kernel_rfl) (by kernel_rfl) (by kernel_rfl) (fun _ _ _ h => h) (Or.inr ⟨by rfl, rfl⟩) (by assumption) ?_
            try simp only [Act.put, List.setIfInBounds_toArray, List.set_cons_zero, List.set_cons_succ]
            refine wpAnyH_take (i := 10) (oi := ⟨some 25, _, _, _, _, _⟩) (v := undef) rfl (by kernel_rfl) (by kernel_rfl) (by kernel_rfl) (fun _ _ _ h => h) (Or.inr ⟨by rfl, rfl⟩) (by assumption) ?_
            try simp only [Act.put, List.setIfInBounds_toArray, List.set_cons_zero, List.set_cons_succ]
            refine wpAnyH_take (i := 11) (oi := ⟨some 26, _, _, _, _, _⟩) (v := undef) rfl (by kernel_rfl) (by kernel_rfl) (by kernel_rfl) (fun _ _ _ h => h) (Or.inr ⟨by rfl, rfl⟩) (by assumption) ?_
            try simp only [Act.put, List.setIfInBounds_toArray, List.set_cons_zero, List.set_cons_succ]
            refine wpAnyH_take (i := 12) (oi := ⟨some 27, _, _, _, _, _⟩) (v := undef) rfl (by kernel_rfl) (by kernel_rfl) (by kernel_rfl) (fun _ _ _ h => h) (Or.inr ⟨by rfl, rfl⟩) (by assumption) ?_
            try simp only [Act.put, List.setIfInBounds_toArray, List.set_cons_zero, List.set_cons_succ]
            refine wpAnyH_take (i := 13) (oi := ⟨some 28, _, _, _, _, _⟩) (v := undef) rfl (by kernel_rfl) (by kernel_rfl) (by kernel_rfl) (fun _ _ _ h => h) (Or.inr ⟨by rfl, rfl⟩) (by assumption) ?_
            try simp only [Act.put, List.setIfInBounds_toArray, List.set_cons_zero, List.set_cons_succ]
            refine wpAnyH_take (i := 14) (oi := ⟨some 29, _, _, _, _, _⟩) (v := undef) rfl (by kernel_rfl) (by kernel_rfl) (by kernel_rfl) (fun _ _ _ h => h) (Or.inr ⟨by rfl, rfl⟩) (by assumption) ?_
            try simp only [Act.put, List.setIfInBounds_toArray, List.set_cons_zero, List.set_cons_succ]
            refine wpAnyH_take (i := 15) (oi := ⟨some 30, _, _, _, _, _⟩) (v := undef) rfl (by kernel_rfl) (by kernel_rfl) (by kernel_rfl) (fun _ _ _ h => h) (Or.inr ⟨by rfl, rfl⟩) (by assumption) ?_
            try simp only [Act.put, List.setIfInBounds_toArray, List.set_cons_zero, List.set_cons_succ]
            refine wpAnyH_take (i := 16) (oi := ⟨some 31, _, _, _, _, _⟩) (v := undef) rfl (by kernel_rfl) (by kernel_rfl) (by kernel_rfl) (fun _ _ _ h => h) (Or.inr ⟨by rfl, rfl⟩) (by assumption) ?_
            try simp only [Act.put, List.setIfInBounds_toArray, List.set_cons_zero, List.set_cons_succ]
            refine wpAnyH_take (i := 17) (oi := ⟨some 32, _, _, _, _, _⟩) (v := ?_) rfl (by kernel_rfl) (by kernel_rfl) (by kernel_rfl) (fun _ _ _ h => h) (Or.inl ⟨by rfl, ?_⟩) (by assumption) ?_
            rotate_left 1
            · intro w hSw; (try dsimp only at hSw); go_simp; try (with_reducible rfl)
            try simp only [Act.put, List.setIfInBounds_toArray, List.set_cons_zero, List.set_cons_succ]
            refine wpAnyH_take (i := 18) (oi := ⟨some 33, _, _, _, _, _⟩) (v := ?_) rfl (by kernel_rfl) (by kernel_rfl) (by kernel_rfl) (fun _ _ _ h => h) (Or.inl ⟨by rfl, ?_⟩) (by assumption) ?_
            rotate_left 1
            · intro w hSw; (try dsimp only at hSw); go_simp; try (with_reducible rfl)
            try simp only [Act.put, List.setIfInBounds_toArray, List.set_cons_zero, List.set_cons_succ]
            refine wpAnyH_done (by kernel_rfl) ?_ _
            try simp only [Act.put, List.setIfInBounds_toArray, List.set_cons_zero, List.set_cons_succ]
            have D2 := Lib.hid (hnx.out.trans (hHeld.2.2.2.2.mono hnx.out.size))
            clear hHeld hI nv
            go_wp2_with fail
            go_roundw
            case rel => exact ⟨0 + 1, by omega, by go_num, Lib.hid ⟨hok.out, fun j hj => absurd hj (by omega)⟩, D2.out⟩
            case measure => simp [intOf]; omega
          · obtain ⟨j, rfl⟩ : ∃ j, k = j + 1 := ⟨k - 1, by omega⟩
            obtain ⟨_, _, _, b0, b1, _, _, _⟩ := h.out j (by rw [hn.out]; omega)
            have b0 := (hnx0.out.cell (p := ⟨b, off + j * 4, none⟩) hb).trans b0
            have b1 := (hnx0.out.cell (p := ⟨b, off + j * 4 + 1, none⟩) hb).trans b1
            obtain ⟨x', hx'⟩ : ∃ c', Hid ((N.getD j nd0).id = c') := ⟨_, Lib.hid rfl⟩
            rw [hx'.out] at b0 b1
            obtain ⟨p', r'⟩ := x'
            dsimp only at b0 b1
            have b0 : (wr.alloc (.cells #[.int .i64 p, .int .i64 r, .int .i64 s, .slice ua un uc] 33)).cell? ⟨b, off + j * 4, none⟩ = some (.int .i64 p') := ((Below.refl wr.heap.size wr).alloc (Nat.le_refl _) _).cell (p := ⟨b, off + j * 4, none⟩) (Nat.lt_of_lt_of_le hb hnx0.out.size) |>.trans b0
            have b1 : (wr.alloc (.cells #[.int .i64 p, .int .i64 r, .int .i64 s, .slice ua un uc] 33)).cell? ⟨b, off + j * 4 + 1, none⟩ = some (.int .i64 r') := ((Below.refl wr.heap.size wr).alloc (Nat.le_refl _) _).cell (p := ⟨b, off + j * 4 + 1, none⟩) (Nat.lt_of_lt_of_le hb hnx0.out.size) |>.trans b1
            have sc := cmpI_any p' r' p r
            have hcmp := cmpI_neg p' r' p r
            obtain ⟨x, hx2⟩ : ∃ x, Hid (cmpI p' r' p r = x) := ⟨_, Lib.hid rfl⟩
            rw [hx2.out] at sc hcmp
            have hadd : ltP (N.getD j nd0).id (N.getD (j + 1) nd0).id = decide (x < 0) := by rw [hx'.out, hx.out, hcmp]; rfl
            have hadd := Lib.hid hadd
            have i0 : (0 : Int) ≤ (j : Int) := by omega
            have i1 : (j : Int) < (n : Int) := by omega
            have i2 : (j : Int) ≤ (n : Int) := by omega
            have e0 : (0 : Int) ≤ (j : Int) + 1 := by omega
            have e1 : (j : Int) + 1 < (n : Int) := by omega
            have e2 : (j : Int) + 1 ≤ (n : Int) := by omega
            have d3 : IntKind.i64.wrap (j : Int) = (j : Int) := IntWalk.i64_in _ (by omega)
            have d2 : IntKind.i64.wrap ((j : Int) + 1 - 1) = (j : Int) := by rw [show (j : Int) + 1 - 1 = j by omega]; exact d3
            have c3 : ((j : Int) + 1).toNat = j + 1 := by omega
            clear hcmp
            by_cases hneg : x < 0
            · have hadj' : Hid (∀ i, i + 1 < j + 1 + 1 → ltP (N.getD i nd0).id (N.getD (i + 1) nd0).id = true) := Lib.hid (fun i hi => by
                rcases Nat.lt_or_ge (i + 1) (j + 1) with h' | h'
                · exact hS.out.2 i h'
                · obtain rfl : i = j := by omega
                  rw [hadd.out]; exact decide_eq_true hneg)
              have hn0 : ¬ (0 : Int) ≤ x := by omega
              clear h hS
              go_upto_region 6 with fail
              refine wp_region_held_drew (S := fun w' => w'.cell? ⟨wr.heap.size, 0, none⟩ = some (.int .i64 p) ∧ w'.cell? ⟨wr.heap.size, 1, none⟩ = some (.int .i64 r) ∧ w'.cell? ⟨wr.heap.size, 2, none⟩ = some (.int .i64 s) ∧ w'.cell? ⟨wr.heap.size, 3, none⟩ = some (.slice ua un uc) ∧ w'.cell? ⟨b, off + j * 4, none⟩ = some (.int .i64 p') ∧ w'.cell? ⟨b, off + j * 4 + 1, none⟩ = some (.int .i64 r') ∧ Below (wr.alloc (.cells #[.int .i64 p, .int .i64 r, .int .i64 s, .slice ua un uc] 33)).heap.size (wr.alloc (.cells #[.int .i64 p, .int .i64 r, .int .i64 s, .slice ua un uc] 33)) w') (by kernel_rfl) ⟨a0, a1, a2, a3, b0, b1, Below.drew (Below.refl _ _)⟩ (fun hHeld => ?_)
              refine wpAnyH_take (i := 0) (oi := ⟨some 15, _, _, _, _, _⟩) (v := ?_) rfl (by kernel_rfl) (by kernel_rfl) (by kernel_rfl) (fun _ _ _ h => h) (Or.inl ⟨by rfl, ?_⟩) (by assumption) ?_
              rotate_left 1
              · intro w hSw; (try dsimp only at hSw); go_simp; try (with_reducible rfl)
              try simp only [Act.put, List.setIfInBounds_toArray, List.set_cons_zero, List.set_cons_succ]
              refine wpAnyH_ready (rs := [1]) (by kernel_rfl) (by simp) ?_
              refine AllReadyH.cons (o := ⟨some 16, _, _, _, _, _⟩) rfl (fun K hK => ?_) AllReadyH.nil
              go_simp
              refine (nv _ (hI.out.up hHeld.2.2.2.2.2.2 (Nat.le_refl _))).mono ?_
              rintro e w2 ⟨rfl, hb⟩
              go_wp2_with fail
              refine hK.out _ _ ?_ (fun hHeld2 => ?_)
              · exact ⟨cell_later hb hHeld.1, cell_later hb hHeld.2.1, cell_later hb hHeld.2.2.1, cell_later hb hHeld.2.2.2.1, cell_later hb hHeld.2.2.2.2.1, cell_later hb hHeld.2.2.2.2.2.1, hHeld.2.2.2.2.2.2.trans (hb.mono hHeld.2.2.2.2.2.2.size)⟩
              clear hK K hHeld hb
              have hHeld := hHeld2
              clear hHeld2
              try simp only [Act.put, List.setIfInBounds_toArray, List.set_cons_zero, List.set_cons_succ]
              refine wpAnyH_take (i := 2) (oi := ⟨some 17, _, _, _, _, _⟩) (v := ?_) rfl (by kernel_rfl) (by kernel_rfl) (by kernel_rfl) (fun _ _ _ h => h) (Or.inl ⟨by rfl, ?_⟩) (by assumption) ?_
              rotate_left 1
              · intro w hSw; (try dsimp only at hSw); go_simp; try (with_reducible rfl)
              try simp only [Act.put, List.setIfInBounds_toArray, List.set_cons_zero, List.set_cons_succ]
              refine wpAnyH_take (i := 3) (oi := ⟨some 18, _, _, _, _, _⟩) (v := ?_) rfl (by kernel_rfl) (by kernel_rfl) (by kernel_rfl) (fun _ _ _ h => h) (Or.inl ⟨by rfl, ?_⟩) (by assumption) ?_
              rotate_left 1
              · intro w hSw; (try dsimp only at hSw); go_simp; try (with_reducible rfl)
              try simp only [Act.put, List.setIfInBounds_toArray, List.set_cons_zero, List.set_cons_succ]
              refine wpAnyH_take (i := 4) (oi := ⟨some 19, _, _, _, _, _⟩) (v := ?_) rfl (by kernel_rfl) (by kernel_rfl) (by kernel_rfl) (fun _ _ _ h => h) (Or.inl ⟨by rfl, ?_⟩) (by assumption) ?_
              rotate_left 1
              · intro w hSw; (try dsimp only at hSw); go_simp; try (with_reducible rfl)
              try simp only [Act.put, List.setIfInBounds_toArray, List.set_cons_zero, List.set_cons_succ]
              refine wpAnyH_take (i := 5) (oi := ⟨some 20, _, _, _, _, _⟩) (v := ?_) rfl (by kernel_rfl) (by kernel_rfl) (by kernel_rfl) (fun _ _ _ h => h) (Or.inl ⟨by rfl, ?_⟩) (by assumption) ?_
              rotate_left 1
              · intro w hSw; (try dsimp only at hSw); go_simp; try (with_reducible rfl)
              try simp only [Act.put, List.setIfInBounds_toArray, List.set_cons_zero, List.set_cons_succ]
              refine wpAnyH_take (i := 6) (oi := ⟨some 21, _, _, _, _, _⟩) (v := ?_) rfl (by kernel_rfl) (by kernel_rfl) (by kernel_rfl) (fun _ _ _ h => h) (Or.inl ⟨by rfl, ?_⟩) (by assumption) ?_
              rotate_left 1
              · intro w hSw; (try dsimp only at hSw); go_simp; try (with_reducible rfl)
              try simp only [Act.put, List.setIfInBounds_toArray, List.set_cons_zero, List.set_cons_succ]
              refine wpAnyH_take (i := 7) (oi := ⟨some 22, _, _, _, _, _⟩) (v := ?_) rfl (by kernel_rfl) (by kernel_rfl) (by kernel_rfl) (fun _ _ _ h => h) (Or.inl ⟨by rfl, ?_⟩) (by assumption) ?_
              rotate_left 1
              · intro w hSw; (try dsimp only at hSw); go_simp; try (with_reducible rfl)
              try simp only [Act.put, List.setIfInBounds_toArray, List.set_cons_zero, List.set_cons_succ]
              refine wpAnyH_take (i := 8) (oi := ⟨some 23, _, _, _, _, _⟩) (v := ?_) rfl (by kernel_rfl) (by kernel_rfl) (by kernel_rfl) (fun _ _ _ h => h) (Or.inl ⟨by rfl, ?_⟩) (by assumption) ?_
              rotate_left 1
              · intro w hSw; (try dsimp only at hSw); go_simp; try (with_reducible rfl)
              try simp only [Act.put, List.setIfInBounds_toArray, List.set_cons_zero, List.set_cons_succ]
              refine wpAnyH_take (i := 9) (oi := ⟨some 24, _, _, _, _, _⟩) (v := ?_) rfl (by kernel_rfl) (by kernel_rfl) (by kernel_rfl) (fun _ _ _ h => h) (Or.inl ⟨by rfl, ?_⟩) (by assumption) ?_
              rotate_left 1
              · intro w hSw; (try dsimp only at hSw); go_simp; try (with_reducible rfl)
              try simp only [Act.put, List.setIfInBounds_toArray, List.set_cons_zero, List.set_cons_succ]
              refine wpAnyH_take (i := 10) (oi := ⟨some 25, _, _, _, _, _⟩) (v := ?_) rfl (by kernel_rfl) (by kernel_rfl) (by kernel_rfl) (fun _ _ _ h => h) (Or.inl ⟨by rfl, ?_⟩) (by assumption) ?_
              rotate_left 1
              · intro w hSw; (try dsimp only at hSw); go_simp; try (with_reducible rfl)
              try simp only [Act.put, List.setIfInBounds_toArray, List.set_cons_zero, List.set_cons_succ]
              refine wpAnyH_take (i := 11) (oi := ⟨some 26, _, _, _, _, _⟩) (v := ?_) rfl (by kernel_rfl) (by kernel_rfl) (by kernel_rfl) (fun _ _ _ h => h) (Or.inl ⟨by rfl, ?_⟩) (by assumption) ?_
              rotate_left 1
              · intro w hSw; (try dsimp only at hSw); go_simp; try (with_reducible rfl)
              try simp only [Act.put, List.setIfInBounds_toArray, List.set_cons_zero, List.set_cons_succ]
              refine wpAnyH_take (i := 12) (oi := ⟨some 27, _, _, _, _, _⟩) (v := ?_) rfl (by kernel_rfl) (by kernel_rfl) (by kernel_rfl) (fun _ _ _ h => h) (Or.inl ⟨by rfl, ?_⟩) (by assumption) ?_
              rotate_left 1
              · intro w hSw; (try dsimp only at hSw); go_simp; try (with_reducible rfl)
              try simp only [Act.put, List.setIfInBounds_toArray, List.set_cons_zero, List.set_cons_succ]
              refine wpAnyH_take (i := 13) (oi := ⟨some 28, _, _, _, _, _⟩) (v := ?_) rfl (by kernel_rfl) (by kernel_rfl) (by kernel_rfl) (fun _ _ _ h => h) (Or.inl ⟨by rfl, ?_⟩) (by assumption) ?_
              rotate_left 1
              · intro w hSw; (try dsimp only at hSw); go_simp; try (with_reducible rfl)
              try simp only [Act.put, List.setIfInBounds_toArray, List.set_cons_zero, List.set_cons_succ]
              refine wpAnyH_take (i := 14) (oi := ⟨some 29, _, _, _, _, _⟩) (v := ?_) rfl (by kernel_rfl) (by kernel_rfl) (by kernel_rfl) (fun _ _ _ h => h) (Or.inl ⟨by rfl, ?_⟩) (by assumption) ?_
              rotate_left 1
              · intro w hSw; (try dsimp only at hSw); go_simp; try (with_reducible rfl)
              try simp only [Act.put, List.setIfInBounds_toArray, List.set_cons_zero, List.set_cons_succ]
              refine wpAnyH_ready (rs := [15]) (by kernel_rfl) (by simp) ?_
              refine AllReadyH.cons (o := ⟨some 30, _, _, _, _, _⟩) rfl (fun K hK => ?_) AllReadyH.nil
              go_simp
              refine (sc _).mono ?_
              rintro e w3 ⟨rfl, hb⟩
              go_wp2_with fail
              refine hK.out _ _ ?_ (fun hHeld2 => ?_)
              · exact ⟨cell_later hb hHeld.1, cell_later hb hHeld.2.1, cell_later hb hHeld.2.2.1, cell_later hb hHeld.2.2.2.1, cell_later hb hHeld.2.2.2.2.1, cell_later hb hHeld.2.2.2.2.2.1, hHeld.2.2.2.2.2.2.trans (hb.mono hHeld.2.2.2.2.2.2.size)⟩
              clear hK K hHeld hb
              have hHeld := hHeld2
              clear hHeld2
              try simp only [Act.put, List.setIfInBounds_toArray, List.set_cons_zero, List.set_cons_succ]
              refine wpAnyH_take (i := 16) (oi := ⟨some 31, _, _, _, _, _⟩) (v := ?_) rfl (by kernel_rfl) (by kernel_rfl) (by kernel_rfl) (fun _ _ _ h => h) (Or.inl ⟨by rfl, ?_⟩) (by assumption) ?_
              rotate_left 1
              · intro w hSw; (try dsimp only at hSw); go_simp; try (with_reducible rfl)
              try simp only [Act.put, List.setIfInBounds_toArray, List.set_cons_zero, List.set_cons_succ]
              refine wpAnyH_take (i := 17) (oi := ⟨some 32, _, _, _, _, _⟩) (v := ?_) rfl (by kernel_rfl) (by kernel_rfl) (by kernel_rfl) (fun _ _ _ h => h) (Or.inl ⟨by rfl, ?_⟩) (by assumption) ?_
              rotate_left 1
              · intro w hSw; (try dsimp only at hSw); go_simp; try (with_reducible rfl)
              try simp only [Act.put, List.setIfInBounds_toArray, List.set_cons_zero, List.set_cons_succ]
              refine wpAnyH_take (i := 18) (oi := ⟨some 33, _, _, _, _, _⟩) (v := ?_) rfl (by kernel_rfl) (by kernel_rfl) (by kernel_rfl) (fun _ _ _ h => h) (Or.inl ⟨by rfl, ?_⟩) (by assumption) ?_
              rotate_left 1
              · intro w hSw; (try dsimp only at hSw); go_simp; try (with_reducible rfl)
              try simp only [Act.put, List.setIfInBounds_toArray, List.set_cons_zero, List.set_cons_succ]
              refine wpAnyH_done (by kernel_rfl) ?_ _
              try simp only [Act.put, List.setIfInBounds_toArray, List.set_cons_zero, List.set_cons_succ]
              have D2 := Lib.hid (hnx.out.trans (hHeld.2.2.2.2.2.2.mono hnx.out.size))
              clear hHeld hI nv sc
              go_wp2_with fail
              go_roundw
              case rel => exact ⟨(j + 1) + 1, by omega, by go_num, Lib.hid ⟨hok.out, hadj'.out⟩, D2.out⟩
              case measure => simp [intOf]; omega
            · have hR := Lib.hid (nod_turn (N := N) (k := j) (by rw [hn.out]; omega) (by rw [hadd.out]; exact decide_eq_false hneg))
              have hn0 : (0 : Int) ≤ x := by omega
              obtain rfl : false = c := hR.out.symm.trans hc.out
              clear h hS hc
              go_upto_region 6 with fail
              refine wp_region_held_drew (S := fun w' => w'.cell? ⟨wr.heap.size, 0, none⟩ = some (.int .i64 p) ∧ w'.cell? ⟨wr.heap.size, 1, none⟩ = some (.int .i64 r) ∧ w'.cell? ⟨wr.heap.size, 2, none⟩ = some (.int .i64 s) ∧ w'.cell? ⟨wr.heap.size, 3, none⟩ = some (.slice ua un uc) ∧ w'.cell? ⟨b, off + j * 4, none⟩ = some (.int .i64 p') ∧ w'.cell? ⟨b, off + j * 4 + 1, none⟩ = some (.int .i64 r') ∧ Below (wr.alloc (.cells #[.int .i64 p, .int .i64 r, .int .i64 s, .slice ua un uc] 33)).heap.size (wr.alloc (.cells #[.int .i64 p, .int .i64 r, .int .i64 s, .slice ua un uc] 33)) w') (by kernel_rfl) ⟨a0, a1, a2, a3, b0, b1, Below.drew (Below.refl _ _)⟩ (fun hHeld => ?_)
              refine wpAnyH_take (i := 0) (oi := ⟨some 15, _, _, _, _, _⟩) (v := ?_) rfl (by kernel_rfl) (by kernel_rfl) (by kernel_rfl) (fun _ _ _ h => h) (Or.inl ⟨by rfl, ?_⟩) (by assumption) ?_
              rotate_left 1
              · intro w hSw; (try dsimp only at hSw); go_simp; try (with_reducible rfl)
              try simp only [Act.put, List.setIfInBounds_toArray, List.set_cons_zero, List.set_cons_succ]
              refine wpAnyH_ready (rs := [1]) (by kernel_rfl) (by simp) ?_
              refine AllReadyH.cons (o := ⟨some 16, _, _, _, _, _⟩) rfl (fun K hK => ?_) AllReadyH.nil
              go_simp
              refine (nv _ (hI.out.up hHeld.2.2.2.2.2.2 (Nat.le_refl _))).mono ?_
              rintro e w2 ⟨rfl, hb⟩
              go_wp2_with fail
              refine hK.out _ _ ?_ (fun hHeld2 => ?_)
              · exact ⟨cell_later hb hHeld.1, cell_later hb hHeld.2.1, cell_later hb hHeld.2.2.1, cell_later hb hHeld.2.2.2.1, cell_later hb hHeld.2.2.2.2.1, cell_later hb hHeld.2.2.2.2.2.1, hHeld.2.2.2.2.2.2.trans (hb.mono hHeld.2.2.2.2.2.2.size)⟩
              clear hK K hHeld hb
              have hHeld := hHeld2
              clear hHeld2
              try simp only [Act.put, List.setIfInBounds_toArray, List.set_cons_zero, List.set_cons_succ]
              refine wpAnyH_take (i := 2) (oi := ⟨some 17, _, _, _, _, _⟩) (v := ?_) rfl (by kernel_rfl) (by kernel_rfl) (by kernel_rfl) (fun _ _ _ h => h) (Or.inl ⟨by rfl, ?_⟩) (by assumption) ?_
              rotate_left 1
              · intro w hSw; (try dsimp only at hSw); go_simp; try (with_reducible rfl)
              try simp only [Act.put, List.setIfInBounds_toArray, List.set_cons_zero, List.set_cons_succ]
              refine wpAnyH_take (i := 3) (oi := ⟨some 18, _, _, _, _, _⟩) (v := ?_) rfl (by kernel_rfl) (by kernel_rfl) (by kernel_rfl) (fun _ _ _ h => h) (Or.inl ⟨by rfl, ?_⟩) (by assumption) ?_
              rotate_left 1
              · intro w hSw; (try dsimp only at hSw); go_simp; try (with_reducible rfl)
              try simp only [Act.put, List.setIfInBounds_toArray, List.set_cons_zero, List.set_cons_succ]
              refine wpAnyH_take (i := 4) (oi := ⟨some 19, _, _, _, _, _⟩) (v := ?_) rfl (by kernel_rfl) (by kernel_rfl) (by kernel_rfl) (fun _ _ _ h => h) (Or.inl ⟨by rfl, ?_⟩) (by assumption) ?_
              rotate_left 1
              · intro w hSw; (try dsimp only at hSw); go_simp; try (with_reducible rfl)
              try simp only [Act.put, List.setIfInBounds_toArray, List.set_cons_zero, List.set_cons_succ]
              refine wpAnyH_take (i := 5) (oi := ⟨some 20, _, _, _, _, _⟩) (v := ?_) rfl (by kernel_rfl) (by kernel_rfl) (by kernel_rfl) (fun _ _ _ h => h) (Or.inl ⟨by rfl, ?_⟩) (by assumption) ?_
              rotate_left 1
              · intro w hSw; (try dsimp only at hSw); go_simp; try (with_reducible rfl)
              try simp only [Act.put, List.setIfInBounds_toArray, List.set_cons_zero, List.set_cons_succ]
              refine wpAnyH_take (i := 6) (oi := ⟨some 21, _, _, _, _, _⟩) (v := ?_) rfl (by kernel_rfl) (by kernel_rfl) (by kernel_rfl) (fun _ _ _ h => h) (Or.inl ⟨by rfl, ?_⟩) (by assumption) ?_
              rotate_left 1
              · intro w hSw; (try dsimp only at hSw); go_simp; try (with_reducible rfl)
              try simp only [Act.put, List.setIfInBounds_toArray, List.set_cons_zero, List.set_cons_succ]
              refine wpAnyH_take (i := 7) (oi := ⟨some 22, _, _, _, _, _⟩) (v := ?_) rfl (by kernel_rfl) (by kernel_rfl) (by kernel_rfl) (fun _ _ _ h => h) (Or.inl ⟨by rfl, ?_⟩) (by assumption) ?_
              rotate_left 1
              · intro w hSw; (try dsimp only at hSw); go_simp; try (with_reducible rfl)
              try simp only [Act.put, List.setIfInBounds_toArray, List.set_cons_zero, List.set_cons_succ]
              refine wpAnyH_take (i := 8) (oi := ⟨some 23, _, _, _, _, _⟩) (v := ?_) rfl (by kernel_rfl) (by kernel_rfl) (by kernel_rfl) (fun _ _ _ h => h) (Or.inl ⟨by rfl, ?_⟩) (by assumption) ?_
              rotate_left 1
              · intro w hSw; (try dsimp only at hSw); go_simp; try (with_reducible rfl)
              try simp only [Act.put, List.setIfInBounds_toArray, List.set_cons_zero, List.set_cons_succ]
              refine wpAnyH_take (i := 9) (oi := ⟨some 24, _, _, _, _, _⟩) (v := ?_) rfl (by kernel_rfl) (by kernel_rfl) (by kernel_rfl) (fun _ _ _ h => h) (Or.inl ⟨by rfl, ?_⟩) (by assumption) ?_
              rotate_left 1
              · intro w hSw; (try dsimp only at hSw); go_simp; try (with_reducible rfl)
              try simp only [Act.put, List.setIfInBounds_toArray, List.set_cons_zero, List.set_cons_succ]
              refine wpAnyH_take (i := 10) (oi := ⟨some 25, _, _, _, _, _⟩) (v := ?_) rfl (by kernel_rfl) (by kernel_rfl) (by kernel_rfl) (fun _ _ _ h => h) (Or.inl ⟨by rfl, ?_⟩) (by assumption) ?_
              rotate_left 1
              · intro w hSw; (try dsimp only at hSw); go_simp; try (with_reducible rfl)
              try simp only [Act.put, List.setIfInBounds_toArray, List.set_cons_zero, List.set_cons_succ]
              refine wpAnyH_take (i := 11) (oi := ⟨some 26, _, _, _, _, _⟩) (v := ?_) rfl (by kernel_rfl) (by kernel_rfl) (by kernel_rfl) (fun _ _ _ h => h) (Or.inl ⟨by rfl, ?_⟩) (by assumption) ?_
              rotate_left 1
              · intro w hSw; (try dsimp only at hSw); go_simp; try (with_reducible rfl)
              try simp only [Act.put, List.setIfInBounds_toArray, List.set_cons_zero, List.set_cons_succ]
              refine wpAnyH_take (i := 12) (oi := ⟨some 27, _, _, _, _, _⟩) (v := ?_) rfl (by kernel_rfl) (by kernel_rfl) (by kernel_rfl) (fun _ _ _ h => h) (Or.inl ⟨by rfl, ?_⟩) (by assumption) ?_
              rotate_left 1
              · intro w hSw; (try dsimp only at hSw); go_simp; try (with_reducible rfl)
              try simp only [Act.put, List.setIfInBounds_toArray, List.set_cons_zero, List.set_cons_succ]
              refine wpAnyH_take (i := 13) (oi := ⟨some 28, _, _, _, _, _⟩) (v := ?_) rfl (by kernel_rfl) (by kernel_rfl) (by kernel_rfl) (fun _ _ _ h => h) (Or.inl ⟨by rfl, ?_⟩) (by assumption) ?_
              rotate_left 1
              · intro w hSw; (try dsimp only at hSw); go_simp; try (with_reducible rfl)
              try simp only [Act.put, List.setIfInBounds_toArray, List.set_cons_zero, List.set_cons_succ]
              refine wpAnyH_take (i := 14) (oi := ⟨some 29, _, _, _, _, _⟩) (v := ?_) rfl (by kernel_rfl) (by kernel_rfl) (by kernel_rfl) (fun _ _ _ h => h) (Or.inl ⟨by rfl, ?_⟩) (by assumption) ?_
              rotate_left 1
              · intro w hSw; (try dsimp only at hSw); go_simp; try (with_reducible rfl)
              try simp only [Act.put, List.setIfInBounds_toArray, List.set_cons_zero, List.set_cons_succ]
              refine wpAnyH_ready (rs := [15]) (by kernel_rfl) (by simp) ?_
              refine AllReadyH.cons (o := ⟨some 30, _, _, _, _, _⟩) rfl (fun K hK => ?_) AllReadyH.nil
              go_simp
              refine (sc _).mono ?_
              rintro e w3 ⟨rfl, hb⟩
              go_wp2_with fail
              refine hK.out _ _ ?_ (fun hHeld2 => ?_)
              · exact ⟨cell_later hb hHeld.1, cell_later hb hHeld.2.1, cell_later hb hHeld.2.2.1, cell_later hb hHeld.2.2.2.1, cell_later hb hHeld.2.2.2.2.1, cell_later hb hHeld.2.2.2.2.2.1, hHeld.2.2.2.2.2.2.trans (hb.mono hHeld.2.2.2.2.2.2.size)⟩
              clear hK K hHeld hb
              have hHeld := hHeld2
              clear hHeld2
              try simp only [Act.put, List.setIfInBounds_toArray, List.set_cons_zero, List.set_cons_succ]
              refine wpAnyH_take (i := 16) (oi := ⟨some 31, _, _, _, _, _⟩) (v := ?_) rfl (by kernel_rfl) (by kernel_rfl) (by kernel_rfl) (fun _ _ _ h => h) (Or.inl ⟨by rfl, ?_⟩) (by assumption) ?_
              rotate_left 1
              · intro w hSw; (try dsimp only at hSw); go_simp; try (with_reducible rfl)
              try simp only [Act.put, List.setIfInBounds_toArray, List.set_cons_zero, List.set_cons_succ]
              refine wpAnyH_take (i := 17) (oi := ⟨some 32, _, _, _, _, _⟩) (v := ?_) rfl (by kernel_rfl) (by kernel_rfl) (by kernel_rfl) (fun _ _ _ h => h) (Or.inl ⟨by rfl, ?_⟩) (by assumption) ?_
              rotate_left 1
              · intro w hSw; (try dsimp only at hSw); go_simp; try (with_reducible rfl)
              try simp only [Act.put, List.setIfInBounds_toArray, List.set_cons_zero, List.set_cons_succ]
              refine wpAnyH_take (i := 18) (oi := ⟨some 33, _, _, _, _, _⟩) (v := ?_) rfl (by kernel_rfl) (by kernel_rfl) (by kernel_rfl) (fun _ _ _ h => h) (Or.inl ⟨by rfl, ?_⟩) (by assumption) ?_
              rotate_left 1
              · intro w hSw; (try dsimp only at hSw); go_simp; try (with_reducible rfl)
              try simp only [Act.put, List.setIfInBounds_toArray, List.set_cons_zero, List.set_cons_succ]
              refine wpAnyH_done (by kernel_rfl) ?_ _
              try simp only [Act.put, List.setIfInBounds_toArray, List.set_cons_zero, List.set_cons_succ]
              have D2 := Lib.hid (hnx.out.trans (hHeld.2.2.2.2.2.2.mono hnx.out.size))
              clear hHeld hI nv sc
              go_wp2_with fail
              go_ret
              exact ⟨rfl, D2.out⟩
      · obtain rfl : k = n := by omega
        have hR := Lib.hid (nod_good (N := N) (by rw [hn.out]; exact hl) (fun j hj => hS.out.1 j (by rw [← hn.out]; exact hj)) (fun j hj => hS.out.2 j (by rw [← hn.out]; exact hj)))
        obtain rfl : true = c := hR.out.symm.trans hc.out
        have hnx := Lib.hid hnx
        clear h hS hc
        go_wp2_with fail
        go_ret
        exact ⟨rfl, hnx.out⟩
  · have hR := Lib.hid (nod_long (N := N) (by rw [hn.out]; exact hl))
    have hl' : 12 < n := by omega
    obtain rfl : false = c := hR.out.symm.trans hc.out
    clear h hc
    go_enter Try.func19, Try.ntmps19
    go_wp2_with fail
    go_ret
    exact ⟨rfl, Below.refl _ _⟩

theorem inval_nil (a : Option Addr) (ca : Nat) (w : World) :
    Calls Try.prog 19 #[.slice a 0 ca] w fun e w' => e = .returned (.bool (nodB [])) ∧ Below w.heap.size w w' := by
  rw [show nodB [] = true from rfl]
  go_enter Try.func19, Try.ntmps19
  go_wp2_with fail
  refine wp_loop_rounds 1 ?_
  rw [rounds_succ]
  go_wp2_with fail
  go_ret
  exact ⟨rfl, Below.refl _ _⟩

theorem inval_any (u : Value) (N : List Nd) (w : World) (h : Nds w u N) :
    Calls Try.prog 19 #[u] w fun e w' => e = .returned (.bool (nodB N)) ∧ Below w.heap.size w w' := by
  obtain ⟨a, cap, rfl, h1, h2, h3⟩ := h
  rcases h3 with h3 | ⟨b, off, rfl, h4, h5⟩
  · obtain rfl : N = [] := List.length_eq_zero_iff.1 h3
    exact inval_nil a cap w
  · exact inval_at b off cap N w h4 h2 h5
end Go.Proofs.Ytbklkhndjckckaa

/- The program's groupsOf. -/
namespace Go.Proofs.Ytbklkhndjckckaa
open Go.RowKit
set_option linter.unusedVariables false

/-- All groups. -/
def AllG (w : World) (N : List Nd) (U : Us) (gs : List Nat) : Prop := (∀ i, i < N.length → ∃ b ∈ gs, Grp w b N U i) ∧ ∀ b ∈ gs, ∃ i, i < N.length ∧ Grp w b N U i
/-- What groupsOf leaves. -/
def GsP (N : List Nd) (w : World) (e : Ending) (w' : World) : Prop :=
  ∃ gs gv U, e = .returned gv ∧ w'.ownsRow w.heap.size 57 1 gv gs.length (gs.map pv) ∧ gs.length ≤ 12 ∧ Below w.heap.size w w' ∧ (nodB N = false → gs = []) ∧ (nodB N = true → AllG w' N U gs)

def s0 : TS := ⟨0, fun _ => 0, [], fun _ => none⟩
theorem ti0 (E : Nat → Nat → Prop) (n : Nat) : TI E n s0 [] :=
  ⟨fun _ => Nat.le_refl _, fun _ h => absurd rfl h, fun _ _ h => (nomatch h), fun _ => ⟨fun h => (nomatch h), fun h => absurd rfl h.1⟩, List.Pairwise.nil, List.Pairwise.nil, fun _ h => (nomatch h), fun _ _ h => (nomatch h), fun _ _ _ _ h => (nomatch h), fun _ h => absurd rfl h⟩
theorem TI.full {E : Nat → Nat → Prop} {n : Nat} {s : TS} (h : TI E n s []) (hm : ∀ i, i < n → s.met i ≠ 0) : ∀ i, i < n → ∃ b, s.found i = some b := by
  intro i hi
  cases hf : s.found i with
  | some b => exact ⟨b, rfl⟩
  | none =>
    obtain ⟨g, hg, _⟩ := h.gr i ((h.st i).2 ⟨hm i hi, hf⟩)
    exact nomatch hg

/-- The finder at its beginning. -/
def fin0 (v : Value) : Obj := .cells #[v, .slice none 0 0, .int .i64 0, .int .i64 0, .int .i64 0, .int .i64 0, .int .i64 0, .int .i64 0, .int .i64 0, .int .i64 0, .int .i64 0, .int .i64 0, .int .i64 0, .int .i64 0, .int .i64 0, .pointer none, .pointer none, .pointer none, .pointer none, .pointer none, .pointer none, .pointer none, .pointer none, .pointer none, .pointer none, .pointer none, .pointer none, .slice none 0 0] 88
theorem fs0 (N : List Nd) (U : Us) (v : Value) (w0 w : World) (hb : Below w0.heap.size w0 w) (h : w.heap[w0.heap.size]? = some (fin0 v)) : FS N U w0.heap.size v w0 w s0 [] (.slice none 0 0) (.slice none 0 0) := by
  refine ⟨hb, ⟨_, h, rfl, rfl, rfl, rfl, rfl, fun i hi => ?_, fun i hi => ?_⟩, World.ownsRow_nil _ _ _ _, World.ownsRow_nil _ _ _ _, fun _ _ h => (nomatch h), fun b => ⟨fun h => (nomatch h), fun ⟨_, h⟩ => (nomatch h)⟩⟩
  · rcases (show i = 0 ∨ i = 1 ∨ i = 2 ∨ i = 3 ∨ i = 4 ∨ i = 5 ∨ i = 6 ∨ i = 7 ∨ i = 8 ∨ i = 9 ∨ i = 10 ∨ i = 11 by omega) with rfl | rfl | rfl | rfl | rfl | rfl | rfl | rfl | rfl | rfl | rfl | rfl <;> rfl
  · rcases (show i = 0 ∨ i = 1 ∨ i = 2 ∨ i = 3 ∨ i = 4 ∨ i = 5 ∨ i = 6 ∨ i = 7 ∨ i = 8 ∨ i = 9 ∨ i = 10 ∨ i = 11 by omega) with rfl | rfl | rfl | rfl | rfl | rfl | rfl | rfl | rfl | rfl | rfl | rfl <;> rfl

theorem fin_store {P : Program} (w1 WZ : World) (zs vs : Array Value) (t : TypeId) (h : w1.alloc (.cells zs t) = WZ) (hs : zs.size = vs.size) (h1 : ∀ v ∈ vs.toList, v.oneCell' = true) :
    ∃ WS, (storeCells ⟨w1.heap.size, 0, none⟩ vs.toList).run P WZ = .ok () WS ∧ WS.heap[w1.heap.size]? = some (.cells vs t (0, 0)) ∧ Below w1.heap.size w1 WS := by
  subst h
  have hz := heap_alloc_new w1 (.cells zs t)
  have hr := run_storeCells_from (P := P) w1.heap.size t vs.toList 0 zs (w1.alloc (.cells zs t)) hz (by simp [hs]) h1
  rw [List.take_zero, List.nil_append, Array.toArray_toList] at hr
  refine ⟨_, hr, setRow_heap _ _ _ _ _ _ hz, ?_⟩
  have B := (Below.refl w1.heap.size w1).alloc (Nat.le_refl _) (.cells zs t)
  refine ⟨B.os, B.tape, B.output, ?_, fun k hk => ?_⟩
  · refine Nat.le_trans B.size ?_
    show _ ≤ (Array.modify _ _ _).size
    rw [Array.size_modify]; exact Nat.le_refl _
  · rw [setRow_other _ _ _ _ (Nat.ne_of_lt hk)]; exact B.block k hk

set_option maxRecDepth 100000 in
set_option maxHeartbeats 4000000 in
theorem groups_no (u : Value) (N : List Nd) (w : World) (h : Nds w u N) (hv : nodB N = false) :
    Calls Try.prog 32 #[u] w (GsP N w) := by
  have iv := inval_any u N w h
  unfold GsP
  rw [hv] at iv ⊢
  go_enter Try.func32, Try.ntmps32
  go_wp2_with fail
  refine iv.mono ?_
  rintro e w1 ⟨rfl, hb⟩
  have D := Lib.hid hb
  clear hb iv
  go_wp2_with fail
  go_ret
  exact ⟨[], _, fun _ => (none, 0, 0), rfl, World.ownsRow_nil _ _ _ _, by simp, D.out, fun _ => rfl, fun x => nomatch x⟩

set_option maxRecDepth 100000 in
set_option maxHeartbeats 4000000 in
theorem groups_at (a : Option Addr) (cp : Nat) (N : List Nd) (U : Us) (w : World) (hv : nodB N = true) (hU : Nds w (.slice a N.length cp) N)
    (hvis : ∀ (w1 : World), Below w.heap.size w w1 → ∀ (s : TS) (gs : List Nat) (sv gv : Value) (x : Nat) (W : World), x < N.length → FS N U w1.heap.size (.slice a N.length cp) w1 W s gs sv gv → TI (EN N) N.length s [] → s.met x = 0 → s.many + cnt N.length s ≤ 12 → gs.length ≤ s.many →
      Calls Try.prog 56 #[.pointer (some ⟨w1.heap.size, 0, none⟩), .int .i64 x] W (VisP N U w1.heap.size (.slice a N.length cp) w1 s gs [] x)) :
    Calls Try.prog 32 #[.slice a N.length cp] w (GsP N w) := by
  have hNl := (nod_of hv).1
  have iv := inval_any (.slice a N.length cp) N w hU
  have hvis := Lib.hid hvis
  clear hU
  unfold GsP
  rw [hv] at iv ⊢
  obtain ⟨nn, hnn⟩ : ∃ n, Hid (N.length = n) := ⟨_, Lib.hid rfl⟩
  rw [hnn.out] at iv ⊢
  go_enter Try.func32, Try.ntmps32
  go_wp2_with fail
  refine iv.mono ?_
  rintro e w1 ⟨rfl, hb⟩
  have D := Lib.hid hb
  have F0 := Lib.hid (fun (W : World) => fs0 N U (.slice a N.length cp) w1 W)
  clear hb iv
  go_upto_region 3 with fail
  refine wp_region_lit ?_
  refine wpList_plain rfl fun K2 hK2 => ?_
  go_simp
  refine hK2 _ _ ?_
  clear hK2
  refine wpList_plain rfl fun K2 hK2 => ?_
  go_simp
  refine hK2 _ _ ?_
  clear hK2
  obtain ⟨vs, hvs⟩ : ∃ vs : Array Value, #[Value.slice a nn cp, .slice none 0 0, .int .i64 0, .int .i64 0, .int .i64 0, .int .i64 0, .int .i64 0, .int .i64 0, .int .i64 0, .int .i64 0, .int .i64 0, .int .i64 0, .int .i64 0, .int .i64 0, .int .i64 0, .pointer none, .pointer none, .pointer none, .pointer none, .pointer none, .pointer none, .pointer none, .pointer none, .pointer none, .pointer none, .pointer none, .pointer none, .slice none 0 0] = vs := ⟨_, rfl⟩
  rw [hvs]
  have hsz : vs.size = 28 := by rw [← hvs]; rfl
  refine wpList_plain rfl fun K2 hK2 => ?_
  go_simp
  refine hK2 _ _ ?_
  clear hK2
  obtain ⟨WZ, hWZ⟩ : ∃ W, w1.alloc (.cells #[Value.slice none 0 0, .slice none 0 0, .int .i64 0, .int .i64 0, .int .i64 0, .int .i64 0, .int .i64 0, .int .i64 0, .int .i64 0, .int .i64 0, .int .i64 0, .int .i64 0, .int .i64 0, .int .i64 0, .int .i64 0, .pointer none, .pointer none, .pointer none, .pointer none, .pointer none, .pointer none, .pointer none, .pointer none, .pointer none, .pointer none, .pointer none, .pointer none, .slice none 0 0] 88) = W := ⟨_, rfl⟩
  obtain ⟨WS, hst, hws, hbs⟩ := fin_store (P := Try.prog) w1 WZ _ vs 88 hWZ (by rw [hsz]; rfl) (by rw [← hvs]; intro v hv; simp at hv; rcases hv with rfl | rfl | rfl | rfl | rfl <;> rfl)
  rw [hWZ]
  rw [← hvs] at hws
  have hws := Lib.hid hws
  have hbs := Lib.hid hbs
  clear hWZ
  refine wpList_plain rfl fun K2 hK2 => ?_
  go_simp
  refine hK2 _ _ ?_
  clear hK2 hst hsz
  refine wpList_nil ?_
  clear hvs
  go_wp2_with fail
  have F1 : Hid (FS N U w1.heap.size (.slice a N.length cp) w1 WS s0 [] (.slice none 0 0) (.slice none 0 0)) := Lib.hid (F0.out WS hbs.out (by rw [hnn.out]; exact hws.out))
  clear F0 hws
  go_loopw [12] (fun i wr => ∃ (k : Nat) (s : TS) (gs : List Nat) (sv gv : Value), k ≤ nn ∧ i = .int .i64 k ∧ Hid (FS N U w1.heap.size (.slice a N.length cp) w1 wr s gs sv gv ∧ TI (EN N) N.length s [] ∧ (∀ i, i < k → s.met i ≠ 0) ∧ s.many + cnt N.length s ≤ 12 ∧ gs.length ≤ s.many)) (fun i _ => nn - (intOf i).toNat)
  case atStart =>
    refine ⟨0, s0, [], _, _, Nat.zero_le _, rfl, Lib.hid ⟨F1.out, ti0 _ _, fun i hi => absurd hi (Nat.not_lt_zero _), ?_, Nat.le_refl _⟩⟩
    have := cnt_le N.length s0
    show 0 + cnt N.length s0 ≤ 12
    omega
  case round =>
    clear F1 hbs
    obtain ⟨k, s, gs, sv, gv, hk, rfl, hS⟩ := hrel
    have hfl := hS.out.1.fi.lt
    by_cases hlt : k < nn
    · have k12 : k < 12 := by have := hnn.out; omega
      have ki : (k : Int) < 12 := by omega
      have m3 := hS.out.1.fi.metc k12
      unfold nv at m3
      by_cases hm : s.met k = 0
      · rw [hm] at m3
        have cl := hvis.out w1 D.out s gs sv gv k wr (by rw [hnn.out]; exact hlt) hS.out.1 hS.out.2.1 hm hS.out.2.2.2.1 hS.out.2.2.2.2
        go_wp2_with fail
        refine cl.mono ?_
        rintro e w3 ⟨q, t', gt', sv', gv', rfl, hF', hT', hc', hg'⟩
        have R := Lib.hid (⟨hF', hT'.ti, fun i hi => by
          by_cases e : i = k
          · rw [e]; exact hT'.mx
          · have h1 := hS.out.2.2.1 i (by omega)
            rw [hT'.tx.met i h1]; exact h1, hc', by have := hS.out.2.2.2.2; omega⟩ : FS N U w1.heap.size (.slice a N.length cp) w1 w3 t' gt' sv' gv' ∧ TI (EN N) N.length t' [] ∧ (∀ i, i < k + 1 → t'.met i ≠ 0) ∧ t'.many + cnt N.length t' ≤ 12 ∧ gt'.length ≤ t'.many)
        clear cl hF' hT' hc' hg' m3 hS
        go_wp2_with fail
        refine ⟨⟨k + 1, _, _, _, _, by omega, by go_num, R⟩, ?_⟩
        simp [intOf]; omega
      · have hmi : ¬ ((s.met k : Int) = 0) := by omega
        go_wp2_with fail
        refine ⟨⟨k + 1, s, gs, sv, gv, by omega, by go_num, Lib.hid ⟨hS.out.1, hS.out.2.1, fun i hi => ?_, hS.out.2.2.2.1, hS.out.2.2.2.2⟩⟩, ?_⟩
        · by_cases e : i = k
          · rw [e]; exact hm
          · exact hS.out.2.2.1 i (by omega)
        · simp [intOf]; omega
    · obtain rfl : k = nn := by omega
      obtain ⟨_, _, _, z3⟩ := hS.out.1.fi.cells
      go_wp2_with fail
      go_ret
      have hall := hS.out.2.1.full (fun i hi => hS.out.2.2.1 i (by rw [← hnn.out]; exact hi))
      refine ⟨gs, gv, U, rfl, row_base hS.out.1.grow (by have := D.out.size; omega), by have := hS.out.2.2.2.1; have := hS.out.2.2.2.2; omega, bstep D.out hS.out.1.bel, fun x => (nomatch x), fun _ => ⟨fun i hi => ?_, fun b hb => ?_⟩⟩
      · obtain ⟨b, hb⟩ := hall i hi
        exact ⟨b, (hS.out.1.mem b).2 ⟨i, hb⟩, hS.out.1.grp i b hb⟩
      · obtain ⟨i, hi⟩ := (hS.out.1.mem b).1 hb
        exact ⟨i, hS.out.2.1.lt i (hS.out.2.1.fm i b hi), hS.out.1.grp i b hi⟩

/-- THE GROUPS OF NODES. -/
theorem groups_any (u : Value) (N : List Nd) (w : World) (h : Nds w u N) :
    Calls Try.prog 32 #[u] w (GsP N w) := by
  cases hv : nodB N with
  | false => exact groups_no u N w h hv
  | true =>
    have h' := h
    obtain ⟨a, cap, rfl, h1, h2, h3⟩ := h
    rcases h3 with h3 | ⟨b, off, rfl, h4, h5⟩
    · exact groups_at a cap N (fun _ => (none, 0, 0)) w hv h' fun w1 _ s gs sv gv x W hx => absurd hx (by omega)
    · obtain ⟨U, hA⟩ := NdAt.of h4 h5
      exact groups_at _ cap N U w hv h' fun w1 hb s gs sv gv x W hx hF hT hm hc hg => visit_any _ b off cap N U w1 hv (hA.up hb (Nat.le_refl _)) (Nat.le_refl _) (cnt N.length s + 1) s gs sv gv [] x W (Nat.lt_succ_self _) hF hT hx hm (fun y hy => nomatch hy) (fun y hy => nomatch hy) hc hg
end Go.Proofs.Ytbklkhndjckckaa
