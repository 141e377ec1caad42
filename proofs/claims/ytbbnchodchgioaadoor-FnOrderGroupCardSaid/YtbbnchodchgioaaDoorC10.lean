/- Texts laid together. -/
import Derived.Test.YtbbnchodchgioaaDoorC09
import Derived.Test.YtbbnchodchgioaaDoorC01
import Derived.Test.YtbbnchodchgioaaDoorC08
import Derived.Deep.RegionHeld3
import Derived.Deep.RegionWith
import Derived.Test.YtbbnchodchgioaaDoorC12
import Derived.Test.YtbbnchodchgioaaDoorC02
/- The program's idSetOf at every slice. -/
namespace Go.Proofs.YtbbnchodchgioaaDoor
open Go.RowKit
set_option linter.unusedVariables false

set_option maxRecDepth 100000 in
set_option maxHeartbeats 1000000 in
theorem iset_nil (a : Option Addr) (ca : Nat) (w : World) :
    Calls Tryd.prog 92 #[.slice a 0 ca] w (SetPost [] w) := by
  have R0 : Set5 ((w.alloc (.cells #[.int .u64 0, .int .u64 0, .int .u64 0, .int .u64 0, .int .u64 0] 56)).alloc (.cells #[.int .u64 0, .int .u64 0, .int .u64 0, .int .u64 0, .int .u64 0] 56)) w.heap.size (fun _ => 0) := (Below.heap_alloc _ _ _ (by simp)).trans (heap_alloc_new w _)
  have R0 := Lib.hid R0
  have e1 : Hid (srtB [] = true) := Lib.hid (by decide)
  have e2 : Hid (setF [] = fun _ => 0) := Lib.hid (by rw [setF_t e1.out]; funext r; rfl)
  go_enter Tryd.func92, Tryd.ntmps92
  go_wp2_with fail
  refine wp_loop_rounds 1 ?_
  rw [rounds_succ]
  go_wp2_with fail
  exact bodyPost_ret (set_res _ _ w.heap.size _ true rfl rfl R0.out) rfl ⟨by rw [e2.out, e1.out], ((Below.refl _ _).alloc (Nat.le_refl _) _).alloc (by simp) _⟩

theorem iset_any (u : Value) (L : List Pid) (w : World) (h : Ids w u L) :
    Calls Tryd.prog 92 #[u] w (SetPost L w) := by
  obtain ⟨a, cap, rfl, h1, h2, h3⟩ := h
  rcases h3 with h3 | ⟨b, off, rfl, h4, h5⟩
  · obtain rfl : L = [] := List.length_eq_zero_iff.1 h3
    exact iset_nil a cap w
  · exact set_at b off cap L w h4 h2 h5
end Go.Proofs.YtbbnchodchgioaaDoor

/- The program's join of two sets. -/
namespace Go.Proofs.YtbbnchodchgioaaDoor
open Go.RowKit
set_option linter.unusedVariables false

theorem sx_i0 (x0 x1 x2 x3 x4 : Value) (w : World) : (Instr.index 56 (.agg #[x0, x1, x2, x3, x4]) (.int .i64 0)).run Tryd.prog w = .ok x0 w := by kernel_rfl
theorem sx_i1 (x0 x1 x2 x3 x4 : Value) (w : World) : (Instr.index 56 (.agg #[x0, x1, x2, x3, x4]) (.int .i64 1)).run Tryd.prog w = .ok x1 w := by kernel_rfl
theorem sx_i2 (x0 x1 x2 x3 x4 : Value) (w : World) : (Instr.index 56 (.agg #[x0, x1, x2, x3, x4]) (.int .i64 2)).run Tryd.prog w = .ok x2 w := by kernel_rfl
theorem sx_i3 (x0 x1 x2 x3 x4 : Value) (w : World) : (Instr.index 56 (.agg #[x0, x1, x2, x3, x4]) (.int .i64 3)).run Tryd.prog w = .ok x3 w := by kernel_rfl
theorem sx_i4 (x0 x1 x2 x3 x4 : Value) (w : World) : (Instr.index 56 (.agg #[x0, x1, x2, x3, x4]) (.int .i64 4)).run Tryd.prog w = .ok x4 w := by kernel_rfl

theorem join_res (tm : Array Value) (w : World) (b : Nat) (g : Nat → Nat) (h4 : tm[4]? = some (.pointer (some ⟨b, 0, none⟩))) (h : Set5 w b g) :
    (results Tryd.f55 tm).run Tryd.prog w = .ok (setV g) w := by
  obtain ⟨t0, t1, t2, t3, t4⟩ := h.five
  simp [results, Tryd.results55, go_sem, setV, h4, t0, t1, t2, t3, t4]

def joinF (f g : Nat → Nat) : Nat → Nat := fun r => f r ||| g r

set_option maxRecDepth 100000 in
set_option maxHeartbeats 4000000 in
theorem join_any (f g : Nat → Nat) (w : World) (hf : ∀ r, f r < 2251799813685248) (hg : ∀ r, g r < 2251799813685248) :
    Calls Tryd.prog 55 #[setV f, setV g] w fun e w' => e = .returned (setV (joinF f g)) ∧ Below w.heap.size w w' := by
  have ob : ∀ r, bits .or .u64 (f r : Int) (g r : Int) = ((joinF f g r : Nat) : Int) := fun r => bits_or_u64_nat _ _ (by have := hf r; omega) (by have := hg r; omega)
  have o0 := ob 0; have o1 := ob 1; have o2 := ob 2; have o3 := ob 3; have o4 := ob 4
  clear ob hf hg
  unfold setV
  obtain ⟨j, hj⟩ : ∃ j, Hid (joinF f g = j) := ⟨_, Lib.hid rfl⟩
  rw [hj.out] at o0 o1 o2 o3 o4 ⊢
  have k0 := fun w => sx_i0 (.int .u64 (g 0)) (.int .u64 (g 1)) (.int .u64 (g 2)) (.int .u64 (g 3)) (.int .u64 (g 4)) w
  have k1 := fun w => sx_i1 (.int .u64 (g 0)) (.int .u64 (g 1)) (.int .u64 (g 2)) (.int .u64 (g 3)) (.int .u64 (g 4)) w
  have k2 := fun w => sx_i2 (.int .u64 (g 0)) (.int .u64 (g 1)) (.int .u64 (g 2)) (.int .u64 (g 3)) (.int .u64 (g 4)) w
  have k3 := fun w => sx_i3 (.int .u64 (g 0)) (.int .u64 (g 1)) (.int .u64 (g 2)) (.int .u64 (g 3)) (.int .u64 (g 4)) w
  have k4 := fun w => sx_i4 (.int .u64 (g 0)) (.int .u64 (g 1)) (.int .u64 (g 2)) (.int .u64 (g 3)) (.int .u64 (g 4)) w
  go_enter Tryd.func55, Tryd.ntmps55
  go_wp2_with fail
  refine wp_loop_rounds 6 ?_
  rw [rounds_succ]
  go_wp2_with fail
  rw [rounds_succ]
  go_wp2_with fail
  rw [rounds_succ]
  go_wp2_with fail
  rw [rounds_succ]
  go_wp2_with fail
  rw [rounds_succ]
  go_wp2_with fail
  rw [rounds_succ]
  go_wp2_with fail
  exact bodyPost_ret (join_res _ _ (w.heap.size + 1 + 1) j rfl (heap_alloc_at _ _ _ (by simp))) rfl ⟨rfl, (((Below.refl _ _).alloc (Nat.le_refl _) _).alloc (by simp) _).alloc (by simp; omega) _⟩
end Go.Proofs.YtbbnchodchgioaaDoor

/- The program's DepsValid. -/
namespace Go.Proofs.YtbbnchodchgioaaDoor
open Go.RowKit
set_option linter.unusedVariables false

set_option maxRecDepth 100000 in
set_option maxHeartbeats 1000000 in
theorem ival_any (u : Value) (L : List Pid) (w : World) (h : Ids w u L) :
    Calls Tryd.prog 86 #[u] w fun e w' => e = .returned (.bool (srtB L)) ∧ Below w.heap.size w w' := by
  have h := Lib.hid h
  go_enter Tryd.func86, Tryd.ntmps86
  go_wp2_with fail
  refine (iset_any u L _ h.out).mono ?_
  rintro e w1 ⟨rfl, hb⟩
  have D1 := Lib.hid hb
  clear hb h
  unfold setV
  go_wp2_with fail
  go_ret
  exact ⟨rfl, D1.out.alloc D1.out.size _⟩
end Go.Proofs.YtbbnchodchgioaaDoor

/- The program's valid of a node. -/
namespace Go.Proofs.YtbbnchodchgioaaDoor
open Go.RowKit
set_option linter.unusedVariables false

def ndB4 (r n s : Int) (v h : Bool) : Bool := idB r n && (decide (1 ≤ s ∧ s ≤ 99) && (v && !h))

set_option maxRecDepth 100000 in
set_option maxHeartbeats 2000000 in
theorem ndv_any (x : Nd) (u : Value) (w : World) (h : Ids w u x.deps) :
    Calls Tryd.prog 81 #[ndv x u] w fun e w' => e = .returned (.bool (ndB x)) ∧ Below w.heap.size w w' := by
  obtain ⟨⟨p, r⟩, s, L⟩ := x
  unfold ndv
  dsimp only at h ⊢
  have sv := ivid_any p r
  have sd := fun W (H : Ids W u L) => ival_any u L W H
  have sc := fun W (H : Ids W u L) => cont_any u L p r W H
  obtain ⟨c, hc⟩ : ∃ c, Hid (ndB ⟨(p, r), s, L⟩ = c) := ⟨_, Lib.hid rfl⟩
  rw [hc.out]
  have hc := Lib.hid (show ndB4 p r s (srtB L) (hasP L (p, r)) = c from hc.out)
  obtain ⟨q1, h1⟩ : ∃ q, idB p r = q := ⟨_, rfl⟩
  obtain ⟨q2, h2⟩ : ∃ q, srtB L = q := ⟨_, rfl⟩
  obtain ⟨q3, h3⟩ : ∃ q, hasP L (p, r) = q := ⟨_, rfl⟩
  have hc := hc.out
  unfold ndB4 at hc
  rw [h1] at sv hc
  rw [h2] at hc
  rw [h3] at hc
  rw [h2] at sd
  rw [h3] at sc
  clear h1 h2 h3
  have hI := Lib.hid (h.up ((Below.refl _ _).alloc (Nat.le_refl _) (.cells #[.int .i64 p, .int .i64 r, .int .i64 s, u] 32)) (Nat.le_refl _))
  have hD := Lib.hid ((Below.refl w.heap.size w).alloc (Nat.le_refl _) (.cells #[.int .i64 p, .int .i64 r, .int .i64 s, u] 32))
  obtain ⟨a0, a1, a2, a3⟩ := four_cells (heap_alloc_new w (.cells #[.int .i64 p, .int .i64 r, .int .i64 s, u] 32))
  clear h
  cases q1
  · obtain rfl : false = c := by simpa using hc
    clear hc sd sc hI
    go_enter Tryd.func81, Tryd.ntmps81
    go_wp2_with fail
    refine (sv _).mono ?_
    rintro e w1 ⟨rfl, B⟩
    have a0 := cell_later B a0
    have a1 := cell_later B a1
    have a2 := cell_later B a2
    have a3 := cell_later B a3
    have hD := Lib.hid (hD.out.trans (B.mono hD.out.size))
    clear B
    go_wp2_with fail
    go_ret
    exact ⟨rfl, hD.out⟩
  · by_cases hs1 : 1 ≤ s
    · by_cases hs2 : s ≤ 99
      · cases q2
        · obtain rfl : false = c := by simpa using hc
          clear hc sc
          go_enter Tryd.func81, Tryd.ntmps81
          go_wp2_with fail
          refine (sv _).mono ?_
          rintro e w1 ⟨rfl, B⟩
          have a0 := cell_later B a0
          have a1 := cell_later B a1
          have a2 := cell_later B a2
          have a3 := cell_later B a3
          have hI := Lib.hid (hI.out.up B (Nat.le_refl _))
          have hD := Lib.hid (hD.out.trans (B.mono hD.out.size))
          go_wp2_with fail
          refine (sd _ hI.out).mono ?_
          rintro e w2 ⟨rfl, B2⟩
          have a0 := cell_later B2 a0
          have a1 := cell_later B2 a1
          have a2 := cell_later B2 a2
          have a3 := cell_later B2 a3
          have hD := Lib.hid (hD.out.trans (B2.mono hD.out.size))
          clear B B2 hI sd sv
          go_wp2_with fail
          go_ret
          exact ⟨rfl, hD.out⟩
        · obtain rfl : (!q3) = c := by simpa [hs1, hs2] using hc
          clear hc
          go_enter Tryd.func81, Tryd.ntmps81
          go_wp2_with fail
          refine (sv _).mono ?_
          rintro e w1 ⟨rfl, B⟩
          have a0 := cell_later B a0
          have a1 := cell_later B a1
          have a2 := cell_later B a2
          have a3 := cell_later B a3
          have hI := Lib.hid (hI.out.up B (Nat.le_refl _))
          have hD := Lib.hid (hD.out.trans (B.mono hD.out.size))
          go_wp2_with fail
          refine (sd _ hI.out).mono ?_
          rintro e w2 ⟨rfl, B2⟩
          have a0 := cell_later B2 a0
          have a1 := cell_later B2 a1
          have a2 := cell_later B2 a2
          have a3 := cell_later B2 a3
          have hI := Lib.hid (hI.out.up B2 (Nat.le_refl _))
          have hD := Lib.hid (hD.out.trans (B2.mono hD.out.size))
          go_wp2_with fail
          refine (sc _ hI.out).mono ?_
          rintro e w3 ⟨rfl, B3⟩
          have a0 := cell_later B3 a0
          have a1 := cell_later B3 a1
          have a2 := cell_later B3 a2
          have a3 := cell_later B3 a3
          have hD := Lib.hid (hD.out.trans (B3.mono hD.out.size))
          clear B B2 B3 hI sd sv sc
          go_wp2_with fail
          go_ret
          exact ⟨rfl, hD.out⟩
      · obtain rfl : false = c := by simpa [hs2] using hc
        clear hc sd sc hI
        go_enter Tryd.func81, Tryd.ntmps81
        go_wp2_with fail
        refine (sv _).mono ?_
        rintro e w1 ⟨rfl, B⟩
        have a0 := cell_later B a0
        have a1 := cell_later B a1
        have a2 := cell_later B a2
        have a3 := cell_later B a3
        have hD := Lib.hid (hD.out.trans (B.mono hD.out.size))
        go_wp2_with fail
        go_ret
        exact ⟨rfl, hD.out⟩
    · obtain rfl : false = c := by simpa [hs1] using hc
      clear hc sd sc hI
      go_enter Tryd.func81, Tryd.ntmps81
      go_wp2_with fail
      refine (sv _).mono ?_
      rintro e w1 ⟨rfl, B⟩
      have a0 := cell_later B a0
      have a1 := cell_later B a1
      have a2 := cell_later B a2
      have a3 := cell_later B a3
      have hD := Lib.hid (hD.out.trans (B.mono hD.out.size))
      go_wp2_with fail
      go_ret
      exact ⟨rfl, hD.out⟩
end Go.Proofs.YtbbnchodchgioaaDoor

/- The program's NodesValid. -/
namespace Go.Proofs.YtbbnchodchgioaaDoor
open Go.RowKit
set_option linter.unusedVariables false

set_option maxRecDepth 100000 in
set_option maxHeartbeats 4000000 in
theorem inval_at (b off ca : Nat) (N : List Nd) (w : World) (hb : b < w.heap.size) (hm : N.length ≤ 2000000) (h : ∀ i, i < N.length → NdIn w b (off + i * 4) (N.getD i nd0)) :
    Calls Tryd.prog 71 #[.slice (some ⟨b, off, none⟩) N.length ca] w fun e w' => e = .returned (.bool (nodB N)) ∧ Below w.heap.size w w' := by
  have h := Lib.hid h
  obtain ⟨n, hn⟩ : ∃ n, Hid (N.length = n) := ⟨_, Lib.hid rfl⟩
  rw [hn.out] at hm ⊢
  obtain ⟨c, hc⟩ : ∃ c, Hid (nodB N = c) := ⟨_, Lib.hid rfl⟩
  rw [hc.out]
  by_cases hl : n ≤ 12
  · have hl' : ¬ 12 < n := by omega
    go_enter Tryd.func71, Tryd.ntmps71
    go_wp2_with fail
    go_loopw [10] (fun i wr => ∃ k : Nat, k ≤ n ∧ i = .int .i64 k ∧ Hid ((∀ j, j < k → ndB (N.getD j nd0) = true) ∧ (∀ j, j + 1 < k → ltP (N.getD j nd0).id (N.getD (j + 1) nd0).id = true)) ∧ Below w.heap.size w wr) (fun i _ => n - (intOf i).toNat)
    case atStart => exact ⟨0, Nat.zero_le _, rfl, Lib.hid ⟨fun j hj => absurd hj (Nat.not_lt_zero _), fun j hj => absurd hj (Nat.not_lt_zero _)⟩, Below.refl _ _⟩
    case round =>
      obtain ⟨k, hk, rfl, hS, hnx⟩ := hrel
      by_cases hlt : k < n
      · obtain ⟨x, hx⟩ : ∃ x, Hid (N.getD k nd0 = x) := ⟨_, Lib.hid rfl⟩
        have hI := h.out k (by rw [hn.out]; exact hlt)
        rw [hx.out] at hI
        obtain ⟨ua, un, uc, q0, q1, q2, q3, hI⟩ := hI
        obtain ⟨⟨p, r⟩, s, L⟩ := x
        dsimp only at q0 q1 q2 q3 hI
        have q0 := (hnx.cell (p := ⟨b, off + k * 4, none⟩) hb).trans q0
        have q1 := (hnx.cell (p := ⟨b, off + k * 4 + 1, none⟩) hb).trans q1
        have q2 := (hnx.cell (p := ⟨b, off + k * 4 + 2, none⟩) hb).trans q2
        have q3 := (hnx.cell (p := ⟨b, off + k * 4 + 3, none⟩) hb).trans q3
        have hI := Lib.hid ((hI.up hnx (Nat.le_refl _)).up ((Below.refl _ _).alloc (Nat.le_refl _) (.cells #[.int .i64 p, .int .i64 r, .int .i64 s, .slice ua un uc] 32)) (Nat.le_refl _))
        have nv := fun W (H : Ids W (.slice ua un uc) L) => ndv_any ⟨(p, r), s, L⟩ (.slice ua un uc) W H
        unfold ndv at nv
        dsimp only at nv
        obtain ⟨q, hq⟩ : ∃ q, Hid (ndB ⟨(p, r), s, L⟩ = q) := ⟨_, Lib.hid rfl⟩
        rw [hq.out] at nv
        have A0 := heap_alloc_new wr (.cells #[.int .i64 p, .int .i64 r, .int .i64 s, .slice ua un uc] 32)
        obtain ⟨a0, a1, a2, a3⟩ := four_cells A0
        clear A0
        have hnx0 := Lib.hid hnx
        have hnx := Lib.hid (hnx.alloc hnx.size (.cells #[.int .i64 p, .int .i64 r, .int .i64 s, .slice ua un uc] 32))
        cases q
        · have hR := Lib.hid (nod_bad (N := N) (by rw [hn.out]; exact hlt) (show ndB (N.getD k nd0) = false by rw [hx.out]; exact hq.out))
          obtain rfl : false = c := hR.out.symm.trans hc.out
          clear h hS hc
          go_upto_region 6 with fail
          refine wp_region_held_drew (S := fun w' => w'.cell? ⟨wr.heap.size, 0, none⟩ = some (.int .i64 p) ∧ w'.cell? ⟨wr.heap.size, 1, none⟩ = some (.int .i64 r) ∧ w'.cell? ⟨wr.heap.size, 2, none⟩ = some (.int .i64 s) ∧ w'.cell? ⟨wr.heap.size, 3, none⟩ = some (.slice ua un uc) ∧ Below (wr.alloc (.cells #[.int .i64 p, .int .i64 r, .int .i64 s, .slice ua un uc] 32)).heap.size (wr.alloc (.cells #[.int .i64 p, .int .i64 r, .int .i64 s, .slice ua un uc] 32)) w') (by kernel_rfl) ⟨a0, a1, a2, a3, Below.drew (Below.refl _ _)⟩ (fun hHeld => ?_)
          refine wpAnyH_take (i := 0) (oi := ⟨some 15, _, _, _, _, _⟩) (v := ?_) rfl (by kernel_rfl) (by kernel_rfl) (by kernel_rfl) (fun _ _ _ h => h) (Or.inl ⟨by rfl, ?_⟩) (by assumption) ?_
          rotate_left 1
          · intro w hSw; (try dsimp only at hSw); go_simp; try (with_reducible rfl)
          try simp only [Act.put, List.setIfInBounds_toArray, List.set_cons_zero, List.set_cons_succ]
          refine wpAnyH_ready (rs := [1]) (by kernel_rfl) (by simp) ?_
          refine AllReadyH.cons (o := ⟨some 16, _, _, _, _, _⟩) rfl (fun K hK => ?_) AllReadyH.nil
          go_simp
          refine (nv _ (hI.out.up hHeld.2.2.2.2 (Nat.le_refl _))).mono ?_
          rintro e w2 ⟨rfl, hb⟩
          go_wp2_with fail
          refine hK.out _ _ ?_ (fun hHeld2 => ?_)
          · exact ⟨cell_later hb hHeld.1, cell_later hb hHeld.2.1, cell_later hb hHeld.2.2.1, cell_later hb hHeld.2.2.2.1, hHeld.2.2.2.2.trans (hb.mono hHeld.2.2.2.2.size)⟩
          clear hK K hHeld hb
          have hHeld := hHeld2
          clear hHeld2
          try simp only [Act.put, List.setIfInBounds_toArray, List.set_cons_zero, List.set_cons_succ]
          refine wpAnyH_take (i := 2) (oi := ⟨some 17, _, _, _, _, _⟩) (v := ?_) rfl (by kernel_rfl) (by kernel_rfl) (by kernel_rfl) (fun _ _ _ h => h) (Or.inl ⟨by rfl, ?_⟩) (by assumption) ?_
          rotate_left 1
          · intro w hSw; (try dsimp only at hSw); go_simp; try (with_reducible rfl)
          try simp only [Act.put, List.setIfInBounds_toArray, List.set_cons_zero, List.set_cons_succ]
          refine wpAnyH_take (i := 3) (oi := ⟨some 18, _, _, _, _, _⟩) (v := ?_) rfl (by kernel_rfl) (by kernel_rfl) (by kernel_rfl) (fun _ _ _ h => h) (Or.inl ⟨by rfl, ?_⟩) (by assumption) ?_
          rotate_left 1
          · intro w hSw; (try dsimp only at hSw); go_simp; try (with_reducible rfl)
          try simp only [Act.put, List.setIfInBounds_toArray, List.set_cons_zero, List.set_cons_succ]
          refine wpAnyH_take (i := 4) (oi := ⟨some 19, _, _, _, _, _⟩) (v := undef) rfl (by kernel_rfl) (by kernel_rfl) (by kernel_rfl) (fun _ _ _ h => h) (Or.inr ⟨by rfl, rfl⟩) (by assumption) ?_
          try simp only [Act.put, List.setIfInBounds_toArray, List.set_cons_zero, List.set_cons_succ]
          refine wpAnyH_take (i := 5) (oi := ⟨some 20, _, _, _, _, _⟩) (v := undef) rfl (by kernel_rfl) (by kernel_rfl) (by kernel_rfl) (fun _ _ _ h => h) (Or.inr ⟨by rfl, rfl⟩) (by assumption) ?_
          try simp only [Act.put, List.setIfInBounds_toArray, List.set_cons_zero, List.set_cons_succ]
          refine wpAnyH_take (i := 6) (oi := ⟨some 21, _, _, _, _, _⟩) (v := undef) rfl (by kernel_rfl) (by kernel_rfl) (by kernel_rfl) (fun _ _ _ h => h) (Or.inr ⟨by rfl, rfl⟩) (by assumption) ?_
          try simp only [Act.put, List.setIfInBounds_toArray, List.set_cons_zero, List.set_cons_succ]
          refine wpAnyH_take (i := 7) (oi := ⟨some 22, _, _, _, _, _⟩) (v := undef) rfl (by kernel_rfl) (by kernel_rfl) (by kernel_rfl) (fun _ _ _ h => h) (Or.inr ⟨by rfl, rfl⟩) (by assumption) ?_
          try simp only [Act.put, List.setIfInBounds_toArray, List.set_cons_zero, List.set_cons_succ]
          refine wpAnyH_take (i := 8) (oi := ⟨some 23, _, _, _, _, _⟩) (v := undef) rfl (by kernel_rfl) (by kernel_rfl) (by kernel_rfl) (fun _ _ _ h => h) (Or.inr ⟨by rfl, rfl⟩) (by assumption) ?_
          try simp only [Act.put, List.setIfInBounds_toArray, List.set_cons_zero, List.set_cons_succ]
          refine wpAnyH_take (i := 9) (oi := ⟨some 24, _, _, _, _, _⟩) (v := undef) rfl (by kernel_rfl) (by kernel_rfl) (by kernel_rfl) (fun _ _ _ h => h) (Or.inr ⟨by rfl, rfl⟩) (by assumption) ?_
          try simp only [Act.put, List.setIfInBounds_toArray, List.set_cons_zero, List.set_cons_succ]
          refine wpAnyH_take (i := 10) (oi := ⟨some 25, _, _, _, _, _⟩) (v := undef) rfl (by kernel_rfl) (by kernel_rfl) (by kernel_rfl) (fun _ _ _ h => h) (Or.inr ⟨by rfl, rfl⟩) (by assumption) ?_
          try simp only [Act.put, List.setIfInBounds_toArray, List.set_cons_zero, List.set_cons_succ]
          refine wpAnyH_take (i := 11) (oi := ⟨some 26, _, _, _, _, _⟩) (v := undef) rfl (by kernel_rfl) (by kernel_rfl) (by kernel_rfl) (fun _ _ _ h => h) (Or.inr ⟨by rfl, rfl⟩) (by assumption) ?_
          try simp only [Act.put, List.setIfInBounds_toArray, List.set_cons_zero, List.set_cons_succ]
          refine wpAnyH_take (i := 12) (oi := ⟨some 27, _, _, _, _, _⟩) (v := undef) rfl (by kernel_rfl) (by kernel_rfl) (by kernel_rfl) (fun _ _ _ h => h) (Or.inr ⟨by rfl, rfl⟩) (by assumption) ?_
          try simp only [Act.put, List.setIfInBounds_toArray, List.set_cons_zero, List.set_cons_succ]
          refine wpAnyH_take (i := 13) (oi := ⟨some 28, _, _, _, _, _⟩) (v := undef) rfl (by kernel_rfl) (by kernel_rfl) (by kernel_rfl) (fun _ _ _ h => h) (Or.inr ⟨by rfl, rfl⟩) (by assumption) ?_
          try simp only [Act.put, List.setIfInBounds_toArray, List.set_cons_zero, List.set_cons_succ]
          refine wpAnyH_take (i := 14) (oi := ⟨some 29, _, _, _, _, _⟩) (v := undef) rfl (by kernel_rfl) (by kernel_rfl) (by kernel_rfl) (fun _ _ _ h => h) (Or.inr ⟨by rfl, rfl⟩) (by assumption) ?_
          try simp only [Act.put, List.setIfInBounds_toArray, List.set_cons_zero, List.set_cons_succ]
          refine wpAnyH_take (i := 15) (oi := ⟨some 30, _, _, _, _, _⟩) (v := undef) rfl (by kernel_rfl) (by kernel_rfl) (by kernel_rfl) (fun _ _ _ h => h) (Or.inr ⟨by rfl, rfl⟩) (by assumption) ?_
          try simp only [Act.put, List.setIfInBounds_toArray, List.set_cons_zero, List.set_cons_succ]
          refine wpAnyH_take (i := 16) (oi := ⟨some 31, _, _, _, _, _⟩) (v := undef) rfl (by kernel_rfl) (by kernel_rfl) (by kernel_rfl) (fun _ _ _ h => h) (Or.inr ⟨by rfl, rfl⟩) (by assumption) ?_
          try simp only [Act.put, List.setIfInBounds_toArray, List.set_cons_zero, List.set_cons_succ]
          refine wpAnyH_take (i := 17) (oi := ⟨some 32, _, _, _, _, _⟩) (v := undef) rfl (by kernel_rfl) (by kernel_rfl) (by kernel_rfl) (fun _ _ _ h => h) (Or.inr ⟨by rfl, rfl⟩) (by assumption) ?_
          try simp only [Act.put, List.setIfInBounds_toArray, List.set_cons_zero, List.set_cons_succ]
          refine wpAnyH_take (i := 18) (oi := ⟨some 33, _, _, _, _, _⟩) (v := ?_) rfl (by kernel_rfl) (by kernel_rfl) (by kernel_rfl) (fun _ _ _ h => h) (Or.inl ⟨by rfl, ?_⟩) (by assumption) ?_
          rotate_left 1
          · intro w hSw; (try dsimp only at hSw); go_simp; try (with_reducible rfl)
          try simp only [Act.put, List.setIfInBounds_toArray, List.set_cons_zero, List.set_cons_succ]
          refine wpAnyH_done (by kernel_rfl) ?_ _
          try simp only [Act.put, List.setIfInBounds_toArray, List.set_cons_zero, List.set_cons_succ]
          have D2 := Lib.hid (hnx.out.trans (hHeld.2.2.2.2.mono hnx.out.size))
          clear hHeld hI nv
          go_wp2_with fail
          go_ret
          exact ⟨rfl, D2.out⟩
        · have hok := Lib.hid (up_to hS.out.1 (show ndB (N.getD k nd0) = true by rw [hx.out]; exact hq.out))
          rcases Nat.eq_zero_or_pos k with hk0 | hk0
          · subst hk0
            simp only [Nat.zero_mul, Nat.add_zero] at q0 q1 q2 q3
            clear h hS
            go_upto_region 6 with fail
            refine wp_region_held_drew (S := fun w' => w'.cell? ⟨wr.heap.size, 0, none⟩ = some (.int .i64 p) ∧ w'.cell? ⟨wr.heap.size, 1, none⟩ = some (.int .i64 r) ∧ w'.cell? ⟨wr.heap.size, 2, none⟩ = some (.int .i64 s) ∧ w'.cell? ⟨wr.heap.size, 3, none⟩ = some (.slice ua un uc) ∧ Below (wr.alloc (.cells #[.int .i64 p, .int .i64 r, .int .i64 s, .slice ua un uc] 32)).heap.size (wr.alloc (.cells #[.int .i64 p, .int .i64 r, .int .i64 s, .slice ua un uc] 32)) w') (by kernel_rfl) ⟨a0, a1, a2, a3, Below.drew (Below.refl _ _)⟩ (fun hHeld => ?_)
            refine wpAnyH_take (i := 0) (oi := ⟨some 15, _, _, _, _, _⟩) (v := ?_) rfl (by kernel_rfl) (by kernel_rfl) (by kernel_rfl) (fun _ _ _ h => h) (Or.inl ⟨by rfl, ?_⟩) (by assumption) ?_
            rotate_left 1
            · intro w hSw; (try dsimp only at hSw); go_simp; try (with_reducible rfl)
            try simp only [Act.put, List.setIfInBounds_toArray, List.set_cons_zero, List.set_cons_succ]
            refine wpAnyH_ready (rs := [1]) (by kernel_rfl) (by simp) ?_
            refine AllReadyH.cons (o := ⟨some 16, _, _, _, _, _⟩) rfl (fun K hK => ?_) AllReadyH.nil
            go_simp
            refine (nv _ (hI.out.up hHeld.2.2.2.2 (Nat.le_refl _))).mono ?_
            rintro e w2 ⟨rfl, hb⟩
            go_wp2_with fail
            refine hK.out _ _ ?_ (fun hHeld2 => ?_)
            · exact ⟨cell_later hb hHeld.1, cell_later hb hHeld.2.1, cell_later hb hHeld.2.2.1, cell_later hb hHeld.2.2.2.1, hHeld.2.2.2.2.trans (hb.mono hHeld.2.2.2.2.size)⟩
            clear hK K hHeld hb
            have hHeld := hHeld2
            clear hHeld2
            try simp only [Act.put, List.setIfInBounds_toArray, List.set_cons_zero, List.set_cons_succ]
            refine wpAnyH_take (i := 2) (oi := ⟨some 17, _, _, _, _, _⟩) (v := ?_) rfl (by kernel_rfl) (by kernel_rfl) (by kernel_rfl) (fun _ _ _ h => h) (Or.inl ⟨by rfl, ?_⟩) (by assumption) ?_
            rotate_left 1
            · intro w hSw; (try dsimp only at hSw); go_simp; try (with_reducible rfl)
            try simp only [Act.put, List.setIfInBounds_toArray, List.set_cons_zero, List.set_cons_succ]
            refine wpAnyH_take (i := 3) (oi := ⟨some 18, _, _, _, _, _⟩) (v := ?_) rfl (by kernel_rfl) (by kernel_rfl) (by kernel_rfl) (fun _ _ _ h => h) (Or.inl ⟨by rfl, ?_⟩) (by assumption) ?_
            rotate_left 1
            · intro w hSw; (try dsimp only at hSw); go_simp; try (with_reducible rfl)
            try simp only [Act.put, List.setIfInBounds_toArray, List.set_cons_zero, List.set_cons_succ]
            refine wpAnyH_take (i := 4) (oi := ⟨some 19, _, _, _, _, _⟩) (v := ?_) rfl (by kernel_rfl) (by kernel_rfl) (by kernel_rfl) (fun _ _ _ h => h) (Or.inl ⟨by rfl, ?_⟩) (by assumption) ?_
            rotate_left 1
            · intro w hSw; (try dsimp only at hSw); go_simp; try (with_reducible rfl)
            try simp only [Act.put, List.setIfInBounds_toArray, List.set_cons_zero, List.set_cons_succ]
            refine wpAnyH_take (i := 5) (oi := ⟨some 20, _, _, _, _, _⟩) (v := ?_) rfl (by kernel_rfl) (by kernel_rfl) (by kernel_rfl) (fun _ _ _ h => h) (Or.inl ⟨by rfl, ?_⟩) (by assumption) ?_
            rotate_left 1
            · intro w hSw; (try dsimp only at hSw); go_simp; try (with_reducible rfl)
            try simp only [Act.put, List.setIfInBounds_toArray, List.set_cons_zero, List.set_cons_succ]
            refine wpAnyH_take (i := 6) (oi := ⟨some 21, _, _, _, _, _⟩) (v := ?_) rfl (by kernel_rfl) (by kernel_rfl) (by kernel_rfl) (fun _ _ _ h => h) (Or.inl ⟨by rfl, ?_⟩) (by assumption) ?_
            rotate_left 1
            · intro w hSw; (try dsimp only at hSw); go_simp; try (with_reducible rfl)
            try simp only [Act.put, List.setIfInBounds_toArray, List.set_cons_zero, List.set_cons_succ]
            refine wpAnyH_take (i := 7) (oi := ⟨some 22, _, _, _, _, _⟩) (v := undef) rfl (by kernel_rfl) (by kernel_rfl) (by kernel_rfl) (fun _ _ _ h => h) (Or.inr ⟨by rfl, rfl⟩) (by assumption) ?_
            try simp only [Act.put, List.setIfInBounds_toArray, List.set_cons_zero, List.set_cons_succ]
            refine wpAnyH_take (i := 8) (oi := ⟨some 23, _, _, _, _, _⟩) (v := undef) rfl (by kernel_rfl) (by kernel_rfl) (by kernel_rfl) (fun _ _ _ h => h) (Or.inr ⟨by rfl, rfl⟩) (by assumption) ?_
            try simp only [Act.put, List.setIfInBounds_toArray, List.set_cons_zero, List.set_cons_succ]
            refine wpAnyH_take (i := 9) (oi := ⟨some 24, _, _, _, _, _⟩) (v := undef) rfl (by kernel_rfl) (by kernel_rfl) (by kernel_rfl) (fun _ _ _ h => h) (Or.inr ⟨by rfl, rfl⟩) (by assumption) ?_
            try simp only [Act.put, List.setIfInBounds_toArray, List.set_cons_zero, List.set_cons_succ]
            refine wpAnyH_take (i := 10) (oi := ⟨some 25, _, _, _, _, _⟩) (v := undef) rfl (by kernel_rfl) (by kernel_rfl) (by kernel_rfl) (fun _ _ _ h => h) (Or.inr ⟨by rfl, rfl⟩) (by assumption) ?_
            try simp only [Act.put, List.setIfInBounds_toArray, List.set_cons_zero, List.set_cons_succ]
            refine wpAnyH_take (i := 11) (oi := ⟨some 26, _, _, _, _, _⟩) (v := undef) rfl (by kernel_rfl) (by kernel_rfl) (by kernel_rfl) (fun _ _ _ h => h) (Or.inr ⟨by rfl, rfl⟩) (by assumption) ?_
            try simp only [Act.put, List.setIfInBounds_toArray, List.set_cons_zero, List.set_cons_succ]
            refine wpAnyH_take (i := 12) (oi := ⟨some 27, _, _, _, _, _⟩) (v := undef) rfl (by kernel_rfl) (by kernel_rfl) (by kernel_rfl) (fun _ _ _ h => h) (Or.inr ⟨by rfl, rfl⟩) (by assumption) ?_
            try simp only [Act.put, List.setIfInBounds_toArray, List.set_cons_zero, List.set_cons_succ]
            refine wpAnyH_take (i := 13) (oi := ⟨some 28, _, _, _, _, _⟩) (v := undef) rfl (by kernel_rfl) (by kernel_rfl) (by kernel_rfl) (fun _ _ _ h => h) (Or.inr ⟨by rfl, rfl⟩) (by assumption) ?_
            try simp only [Act.put, List.setIfInBounds_toArray, List.set_cons_zero, List.set_cons_succ]
            refine wpAnyH_take (i := 14) (oi := ⟨some 29, _, _, _, _, _⟩) (v := undef) rfl (by kernel_rfl) (by kernel_rfl) (by kernel_rfl) (fun _ _ _ h => h) (Or.inr ⟨by rfl, rfl⟩) (by assumption) ?_
            try simp only [Act.put, List.setIfInBounds_toArray, List.set_cons_zero, List.set_cons_succ]
            refine wpAnyH_take (i := 15) (oi := ⟨some 30, _, _, _, _, _⟩) (v := undef) rfl (by kernel_rfl) (by kernel_rfl) (by kernel_rfl) (fun _ _ _ h => h) (Or.inr ⟨by rfl, rfl⟩) (by assumption) ?_
            try simp only [Act.put, List.setIfInBounds_toArray, List.set_cons_zero, List.set_cons_succ]
            refine wpAnyH_take (i := 16) (oi := ⟨some 31, _, _, _, _, _⟩) (v := undef) rfl (by kernel_rfl) (by kernel_rfl) (by kernel_rfl) (fun _ _ _ h => h) (Or.inr ⟨by rfl, rfl⟩) (by assumption) ?_
            try simp only [Act.put, List.setIfInBounds_toArray, List.set_cons_zero, List.set_cons_succ]
            refine wpAnyH_take (i := 17) (oi := ⟨some 32, _, _, _, _, _⟩) (v := ?_) rfl (by kernel_rfl) (by kernel_rfl) (by kernel_rfl) (fun _ _ _ h => h) (Or.inl ⟨by rfl, ?_⟩) (by assumption) ?_
            rotate_left 1
            · intro w hSw; (try dsimp only at hSw); go_simp; try (with_reducible rfl)
            try simp only [Act.put, List.setIfInBounds_toArray, List.set_cons_zero, List.set_cons_succ]
            refine wpAnyH_take (i := 18) (oi := ⟨some 33, _, _, _, _, _⟩) (v := ?_) rfl (by kernel_rfl) (by kernel_rfl) (by kernel_rfl) (fun _ _ _ h => h) (Or.inl ⟨by rfl, ?_⟩) (by assumption) ?_
            rotate_left 1
            · intro w hSw; (try dsimp only at hSw); go_simp; try (with_reducible rfl)
            try simp only [Act.put, List.setIfInBounds_toArray, List.set_cons_zero, List.set_cons_succ]
            refine wpAnyH_done (by kernel_rfl) ?_ _
            try simp only [Act.put, List.setIfInBounds_toArray, List.set_cons_zero, List.set_cons_succ]
            have D2 := Lib.hid (hnx.out.trans (hHeld.2.2.2.2.mono hnx.out.size))
            clear hHeld hI nv
            go_wp2_with fail
            go_roundw
            case rel => exact ⟨0 + 1, by omega, by go_num, Lib.hid ⟨hok.out, fun j hj => absurd hj (by omega)⟩, D2.out⟩
            case measure => simp [intOf]; omega
          · obtain ⟨j, rfl⟩ : ∃ j, k = j + 1 := ⟨k - 1, by omega⟩
            obtain ⟨_, _, _, b0, b1, _, _, _⟩ := h.out j (by rw [hn.out]; omega)
            have b0 := (hnx0.out.cell (p := ⟨b, off + j * 4, none⟩) hb).trans b0
            have b1 := (hnx0.out.cell (p := ⟨b, off + j * 4 + 1, none⟩) hb).trans b1
            obtain ⟨x', hx'⟩ : ∃ c', Hid ((N.getD j nd0).id = c') := ⟨_, Lib.hid rfl⟩
            rw [hx'.out] at b0 b1
            obtain ⟨p', r'⟩ := x'
            dsimp only at b0 b1
            have b0 : (wr.alloc (.cells #[.int .i64 p, .int .i64 r, .int .i64 s, .slice ua un uc] 32)).cell? ⟨b, off + j * 4, none⟩ = some (.int .i64 p') := ((Below.refl wr.heap.size wr).alloc (Nat.le_refl _) _).cell (p := ⟨b, off + j * 4, none⟩) (Nat.lt_of_lt_of_le hb hnx0.out.size) |>.trans b0
            have b1 : (wr.alloc (.cells #[.int .i64 p, .int .i64 r, .int .i64 s, .slice ua un uc] 32)).cell? ⟨b, off + j * 4 + 1, none⟩ = some (.int .i64 r') := ((Below.refl wr.heap.size wr).alloc (Nat.le_refl _) _).cell (p := ⟨b, off + j * 4 + 1, none⟩) (Nat.lt_of_lt_of_le hb hnx0.out.size) |>.trans b1
            have sc := cmpI_any p' r' p r
            have hcmp := cmpI_neg p' r' p r
            obtain ⟨x, hx2⟩ : ∃ x, Hid (cmpI p' r' p r = x) := ⟨_, Lib.hid rfl⟩
            rw [hx2.out] at sc hcmp
            have hadd : ltP (N.getD j nd0).id (N.getD (j + 1) nd0).id = decide (x < 0) := by rw [hx'.out, hx.out, hcmp]; rfl
            have hadd := Lib.hid hadd
            have i0 : (0 : Int) ≤ (j : Int) := by omega
            have i1 : (j : Int) < (n : Int) := by omega
            have i2 : (j : Int) ≤ (n : Int) := by omega
            have e0 : (0 : Int) ≤ (j : Int) + 1 := by omega
            have e1 : (j : Int) + 1 < (n : Int) := by omega
            have e2 : (j : Int) + 1 ≤ (n : Int) := by omega
            have d3 : IntKind.i64.wrap (j : Int) = (j : Int) := IntWalk.i64_in _ (by omega)
            have d2 : IntKind.i64.wrap ((j : Int) + 1 - 1) = (j : Int) := by rw [show (j : Int) + 1 - 1 = j by omega]; exact d3
            have c3 : ((j : Int) + 1).toNat = j + 1 := by omega
            clear hcmp
            by_cases hneg : x < 0
            · have hadj' : Hid (∀ i, i + 1 < j + 1 + 1 → ltP (N.getD i nd0).id (N.getD (i + 1) nd0).id = true) := Lib.hid (fun i hi => by
                rcases Nat.lt_or_ge (i + 1) (j + 1) with h' | h'
                · exact hS.out.2 i h'
                · obtain rfl : i = j := by omega
                  rw [hadd.out]; exact decide_eq_true hneg)
              have hn0 : ¬ (0 : Int) ≤ x := by omega
              clear h hS
              go_upto_region 6 with fail
              refine wp_region_held_drew (S := fun w' => w'.cell? ⟨wr.heap.size, 0, none⟩ = some (.int .i64 p) ∧ w'.cell? ⟨wr.heap.size, 1, none⟩ = some (.int .i64 r) ∧ w'.cell? ⟨wr.heap.size, 2, none⟩ = some (.int .i64 s) ∧ w'.cell? ⟨wr.heap.size, 3, none⟩ = some (.slice ua un uc) ∧ w'.cell? ⟨b, off + j * 4, none⟩ = some (.int .i64 p') ∧ w'.cell? ⟨b, off + j * 4 + 1, none⟩ = some (.int .i64 r') ∧ Below (wr.alloc (.cells #[.int .i64 p, .int .i64 r, .int .i64 s, .slice ua un uc] 32)).heap.size (wr.alloc (.cells #[.int .i64 p, .int .i64 r, .int .i64 s, .slice ua un uc] 32)) w') (by kernel_rfl) ⟨a0, a1, a2, a3, b0, b1, Below.drew (Below.refl _ _)⟩ (fun hHeld => ?_)
              refine wpAnyH_take (i := 0) (oi := ⟨some 15, _, _, _, _, _⟩) (v := ?_) rfl (by kernel_rfl) (by kernel_rfl) (by kernel_rfl) (fun _ _ _ h => h) (Or.inl ⟨by rfl, ?_⟩) (by assumption) ?_
              rotate_left 1
              · intro w hSw; (try dsimp only at hSw); go_simp; try (with_reducible rfl)
              try simp only [Act.put, List.setIfInBounds_toArray, List.set_cons_zero, List.set_cons_succ]
              refine wpAnyH_ready (rs := [1]) (by kernel_rfl) (by simp) ?_
              refine AllReadyH.cons (o := ⟨some 16, _, _, _, _, _⟩) rfl (fun K hK => ?_) AllReadyH.nil
              go_simp
              refine (nv _ (hI.out.up hHeld.2.2.2.2.2.2 (Nat.le_refl _))).mono ?_
              rintro e w2 ⟨rfl, hb⟩
              go_wp2_with fail
              refine hK.out _ _ ?_ (fun hHeld2 => ?_)
              · exact ⟨cell_later hb hHeld.1, cell_later hb hHeld.2.1, cell_later hb hHeld.2.2.1, cell_later hb hHeld.2.2.2.1, cell_later hb hHeld.2.2.2.2.1, cell_later hb hHeld.2.2.2.2.2.1, hHeld.2.2.2.2.2.2.trans (hb.mono hHeld.2.2.2.2.2.2.size)⟩
              clear hK K hHeld hb
              have hHeld := hHeld2
              clear hHeld2
              try simp only [Act.put, List.setIfInBounds_toArray, List.set_cons_zero, List.set_cons_succ]
              refine wpAnyH_take (i := 2) (oi := ⟨some 17, _, _, _, _, _⟩) (v := ?_) rfl (by kernel_rfl) (by kernel_rfl) (by kernel_rfl) (fun _ _ _ h => h) (Or.inl ⟨by rfl, ?_⟩) (by assumption) ?_
              rotate_left 1
              · intro w hSw; (try dsimp only at hSw); go_simp; try (with_reducible rfl)
              try simp only [Act.put, List.setIfInBounds_toArray, List.set_cons_zero, List.set_cons_succ]
              refine wpAnyH_take (i := 3) (oi := ⟨some 18, _, _, _, _, _⟩) (v := ?_) rfl (by kernel_rfl) (by kernel_rfl) (by kernel_rfl) (fun _ _ _ h => h) (Or.inl ⟨by rfl, ?_⟩) (by assumption) ?_
              rotate_left 1
              · intro w hSw; (try dsimp only at hSw); go_simp; try (with_reducible rfl)
              try simp only [Act.put, List.setIfInBounds_toArray, List.set_cons_zero, List.set_cons_succ]
              refine wpAnyH_take (i := 4) (oi := ⟨some 19, _, _, _, _, _⟩) (v := ?_) rfl (by kernel_rfl) (by kernel_rfl) (by kernel_rfl) (fun _ _ _ h => h) (Or.inl ⟨by rfl, ?_⟩) (by assumption) ?_
              rotate_left 1
              · intro w hSw; (try dsimp only at hSw); go_simp; try (with_reducible rfl)
              try simp only [Act.put, List.setIfInBounds_toArray, List.set_cons_zero, List.set_cons_succ]
              refine wpAnyH_take (i := 5) (oi := ⟨some 20, _, _, _, _, _⟩) (v := ?_) rfl (by kernel_rfl) (by kernel_rfl) (by kernel_rfl) (fun _ _ _ h => h) (Or.inl ⟨by rfl, ?_⟩) (by assumption) ?_
              rotate_left 1
              · intro w hSw; (try dsimp only at hSw); go_simp; try (with_reducible rfl)
              try simp only [Act.put, List.setIfInBounds_toArray, List.set_cons_zero, List.set_cons_succ]
              refine wpAnyH_take (i := 6) (oi := ⟨some 21, _, _, _, _, _⟩) (v := ?_) rfl (by kernel_rfl) (by kernel_rfl) (by kernel_rfl) (fun _ _ _ h => h) (Or.inl ⟨by rfl, ?_⟩) (by assumption) ?_
              rotate_left 1
              · intro w hSw; (try dsimp only at hSw); go_simp; try (with_reducible rfl)
              try simp only [Act.put, List.setIfInBounds_toArray, List.set_cons_zero, List.set_cons_succ]
              refine wpAnyH_take (i := 7) (oi := ⟨some 22, _, _, _, _, _⟩) (v := ?_) rfl (by kernel_rfl) (by kernel_rfl) (by kernel_rfl) (fun _ _ _ h => h) (Or.inl ⟨by rfl, ?_⟩) (by assumption) ?_
              rotate_left 1
              · intro w hSw; (try dsimp only at hSw); go_simp; try (with_reducible rfl)
              try simp only [Act.put, List.setIfInBounds_toArray, List.set_cons_zero, List.set_cons_succ]
              refine wpAnyH_take (i := 8) (oi := ⟨some 23, _, _, _, _, _⟩) (v := ?_) rfl (by kernel_rfl) (by kernel_rfl) (by kernel_rfl) (fun _ _ _ h => h) (Or.inl ⟨by rfl, ?_⟩) (by assumption) ?_
              rotate_left 1
              · intro w hSw; (try dsimp only at hSw); go_simp; try (with_reducible rfl)
              try simp only [Act.put, List.setIfInBounds_toArray, List.set_cons_zero, List.set_cons_succ]
              refine wpAnyH_take (i := 9) (oi := ⟨some 24, _, _, _, _, _⟩) (v := ?_) rfl (by kernel_rfl) (by kernel_rfl) (by kernel_rfl) (fun _ _ _ h => h) (Or.inl ⟨by rfl, ?_⟩) (by assumption) ?_
              rotate_left 1
              · intro w hSw; (try dsimp only at hSw); go_simp; try (with_reducible rfl)
              try simp only [Act.put, List.setIfInBounds_toArray, List.set_cons_zero, List.set_cons_succ]
              refine wpAnyH_take (i := 10) (oi := ⟨some 25, _, _, _, _, _⟩) (v := ?_) rfl (by kernel_rfl) (by kernel_rfl) (by kernel_rfl) (fun _ _ _ h => h) (Or.inl ⟨by rfl, ?_⟩) (by assumption) ?_
              rotate_left 1
              · intro w hSw; (try dsimp only at hSw); go_simp; try (with_reducible rfl)
              try simp only [Act.put, List.setIfInBounds_toArray, List.set_cons_zero, List.set_cons_succ]
              refine wpAnyH_take (i := 11) (oi := ⟨some 26, _, _, _, _, _⟩) (v := ?_) rfl (by kernel_rfl) (by kernel_rfl) (by kernel_rfl) (fun _ _ _ h => h) (Or.inl ⟨by rfl, ?_⟩) (by assumption) ?_
              rotate_left 1
              · intro w hSw; (try dsimp only at hSw); go_simp; try (with_reducible rfl)
              try simp only [Act.put, List.setIfInBounds_toArray, List.set_cons_zero, List.set_cons_succ]
              refine wpAnyH_take (i := 12) (oi := ⟨some 27, _, _, _, _, _⟩) (v := ?_) rfl (by kernel_rfl) (by kernel_rfl) (by kernel_rfl) (fun _ _ _ h => h) (Or.inl ⟨by rfl, ?_⟩) (by assumption) ?_
              rotate_left 1
              · intro w hSw; (try dsimp only at hSw); go_simp; try (with_reducible rfl)
              try simp only [Act.put, List.setIfInBounds_toArray, List.set_cons_zero, List.set_cons_succ]
              refine wpAnyH_take (i := 13) (oi := ⟨some 28, _, _, _, _, _⟩) (v := ?_) rfl (by kernel_rfl) (by kernel_rfl) (by kernel_rfl) (fun _ _ _ h => h) (Or.inl ⟨by rfl, ?_⟩) (by assumption) ?_
              rotate_left 1
              · intro w hSw; (try dsimp only at hSw); go_simp; try (with_reducible rfl)
              try simp only [Act.put, List.setIfInBounds_toArray, List.set_cons_zero, List.set_cons_succ]
              refine wpAnyH_take (i := 14) (oi := ⟨some 29, _, _, _, _, _⟩) (v := ?_) rfl (by kernel_rfl) (by kernel_rfl) (by kernel_rfl) (fun _ _ _ h => h) (Or.inl ⟨by rfl, ?_⟩) (by assumption) ?_
              rotate_left 1
              · intro w hSw; (try dsimp only at hSw); go_simp; try (with_reducible rfl)
              try simp only [Act.put, List.setIfInBounds_toArray, List.set_cons_zero, List.set_cons_succ]
              refine wpAnyH_ready (rs := [15]) (by kernel_rfl) (by simp) ?_
              refine AllReadyH.cons (o := ⟨some 30, _, _, _, _, _⟩) rfl (fun K hK => ?_) AllReadyH.nil
              go_simp
              refine (sc _).mono ?_
              rintro e w3 ⟨rfl, hb⟩
              go_wp2_with fail
              refine hK.out _ _ ?_ (fun hHeld2 => ?_)
              · exact ⟨cell_later hb hHeld.1, cell_later hb hHeld.2.1, cell_later hb hHeld.2.2.1, cell_later hb hHeld.2.2.2.1, cell_later hb hHeld.2.2.2.2.1, cell_later hb hHeld.2.2.2.2.2.1, hHeld.2.2.2.2.2.2.trans (hb.mono hHeld.2.2.2.2.2.2.size)⟩
              clear hK K hHeld hb
              have hHeld := hHeld2
              clear hHeld2
              try simp only [Act.put, List.setIfInBounds_toArray, List.set_cons_zero, List.set_cons_succ]
              refine wpAnyH_take (i := 16) (oi := ⟨some 31, _, _, _, _, _⟩) (v := ?_) rfl (by kernel_rfl) (by kernel_rfl) (by kernel_rfl) (fun _ _ _ h => h) (Or.inl ⟨by rfl, ?_⟩) (by assumption) ?_
              rotate_left 1
              · intro w hSw; (try dsimp only at hSw); go_simp; try (with_reducible rfl)
              try simp only [Act.put, List.setIfInBounds_toArray, List.set_cons_zero, List.set_cons_succ]
              refine wpAnyH_take (i := 17) (oi := ⟨some 32, _, _, _, _, _⟩) (v := ?_) rfl (by kernel_rfl) (by kernel_rfl) (by kernel_rfl) (fun _ _ _ h => h) (Or.inl ⟨by rfl, ?_⟩) (by assumption) ?_
              rotate_left 1
              · intro w hSw; (try dsimp only at hSw); go_simp; try (with_reducible rfl)
              try simp only [Act.put, List.setIfInBounds_toArray, List.set_cons_zero, List.set_cons_succ]
              refine wpAnyH_take (i := 18) (oi := ⟨some 33, _, _, _, _, _⟩) (v := ?_) rfl (by kernel_rfl) (by kernel_rfl) (by kernel_rfl) (fun _ _ _ h => h) (Or.inl ⟨by rfl, ?_⟩) (by assumption) ?_
              rotate_left 1
              · intro w hSw; (try dsimp only at hSw); go_simp; try (with_reducible rfl)
              try simp only [Act.put, List.setIfInBounds_toArray, List.set_cons_zero, List.set_cons_succ]
              refine wpAnyH_done (by kernel_rfl) ?_ _
              try simp only [Act.put, List.setIfInBounds_toArray, List.set_cons_zero, List.set_cons_succ]
              have D2 := Lib.hid (hnx.out.trans (hHeld.2.2.2.2.2.2.mono hnx.out.size))
              clear hHeld hI nv sc
              go_wp2_with fail
              go_roundw
              case rel => exact ⟨(j + 1) + 1, by omega, by go_num, Lib.hid ⟨hok.out, hadj'.out⟩, D2.out⟩
              case measure => simp [intOf]; omega
            · have hR := Lib.hid (nod_turn (N := N) (k := j) (by rw [hn.out]; omega) (by rw [hadd.out]; exact decide_eq_false hneg))
              have hn0 : (0 : Int) ≤ x := by omega
              obtain rfl : false = c := hR.out.symm.trans hc.out
              clear h hS hc
              go_upto_region 6 with fail
              refine wp_region_held_drew (S := fun w' => w'.cell? ⟨wr.heap.size, 0, none⟩ = some (.int .i64 p) ∧ w'.cell? ⟨wr.heap.size, 1, none⟩ = some (.int .i64 r) ∧ w'.cell? ⟨wr.heap.size, 2, none⟩ = some (.int .i64 s) ∧ w'.cell? ⟨wr.heap.size, 3, none⟩ = some (.slice ua un uc) ∧ w'.cell? ⟨b, off + j * 4, none⟩ = some (.int .i64 p') ∧ w'.cell? ⟨b, off + j * 4 + 1, none⟩ = some (.int .i64 r') ∧ Below (wr.alloc (.cells #[.int .i64 p, .int .i64 r, .int .i64 s, .slice ua un uc] 32)).heap.size (wr.alloc (.cells #[.int .i64 p, .int .i64 r, .int .i64 s, .slice ua un uc] 32)) w') (by kernel_rfl) ⟨a0, a1, a2, a3, b0, b1, Below.drew (Below.refl _ _)⟩ (fun hHeld => ?_)
              refine wpAnyH_take (i := 0) (oi := ⟨some 15, _, _, _, _, _⟩) (v := ?_) rfl (by kernel_rfl) (by kernel_rfl) (by kernel_rfl) (fun _ _ _ h => h) (Or.inl ⟨by rfl, ?_⟩) (by assumption) ?_
              rotate_left 1
              · intro w hSw; (try dsimp only at hSw); go_simp; try (with_reducible rfl)
              try simp only [Act.put, List.setIfInBounds_toArray, List.set_cons_zero, List.set_cons_succ]
              refine wpAnyH_ready (rs := [1]) (by kernel_rfl) (by simp) ?_
              refine AllReadyH.cons (o := ⟨some 16, _, _, _, _, _⟩) rfl (fun K hK => ?_) AllReadyH.nil
              go_simp
              refine (nv _ (hI.out.up hHeld.2.2.2.2.2.2 (Nat.le_refl _))).mono ?_
              rintro e w2 ⟨rfl, hb⟩
              go_wp2_with fail
              refine hK.out _ _ ?_ (fun hHeld2 => ?_)
              · exact ⟨cell_later hb hHeld.1, cell_later hb hHeld.2.1, cell_later hb hHeld.2.2.1, cell_later hb hHeld.2.2.2.1, cell_later hb hHeld.2.2.2.2.1, cell_later hb hHeld.2.2.2.2.2.1, hHeld.2.2.2.2.2.2.trans (hb.mono hHeld.2.2.2.2.2.2.size)⟩
              clear hK K hHeld hb
              have hHeld := hHeld2
              clear hHeld2
              try simp only [Act.put, List.setIfInBounds_toArray, List.set_cons_zero, List.set_cons_succ]
              refine wpAnyH_take (i := 2) (oi := ⟨some 17, _, _, _, _, _⟩) (v := ?_) rfl (by kernel_rfl) (by kernel_rfl) (by kernel_rfl) (fun _ _ _ h => h) (Or.inl ⟨by rfl, ?_⟩) (by assumption) ?_
              rotate_left 1
              · intro w hSw; (try dsimp only at hSw); go_simp; try (with_reducible rfl)
              try simp only [Act.put, List.setIfInBounds_toArray, List.set_cons_zero, List.set_cons_succ]
              refine wpAnyH_take (i := 3) (oi := ⟨some 18, _, _, _, _, _⟩) (v := ?_) rfl (by kernel_rfl) (by kernel_rfl) (by kernel_rfl) (fun _ _ _ h => h) (Or.inl ⟨by rfl, ?_⟩) (by assumption) ?_
              rotate_left 1
              · intro w hSw; (try dsimp only at hSw); go_simp; try (with_reducible rfl)
              try simp only [Act.put, List.setIfInBounds_toArray, List.set_cons_zero, List.set_cons_succ]
              refine wpAnyH_take (i := 4) (oi := ⟨some 19, _, _, _, _, _⟩) (v := ?_) rfl (by kernel_rfl) (by kernel_rfl) (by kernel_rfl) (fun _ _ _ h => h) (Or.inl ⟨by rfl, ?_⟩) (by assumption) ?_
              rotate_left 1
              · intro w hSw; (try dsimp only at hSw); go_simp; try (with_reducible rfl)
              try simp only [Act.put, List.setIfInBounds_toArray, List.set_cons_zero, List.set_cons_succ]
              refine wpAnyH_take (i := 5) (oi := ⟨some 20, _, _, _, _, _⟩) (v := ?_) rfl (by kernel_rfl) (by kernel_rfl) (by kernel_rfl) (fun _ _ _ h => h) (Or.inl ⟨by rfl, ?_⟩) (by assumption) ?_
              rotate_left 1
              · intro w hSw; (try dsimp only at hSw); go_simp; try (with_reducible rfl)
              try simp only [Act.put, List.setIfInBounds_toArray, List.set_cons_zero, List.set_cons_succ]
              refine wpAnyH_take (i := 6) (oi := ⟨some 21, _, _, _, _, _⟩) (v := ?_) rfl (by kernel_rfl) (by kernel_rfl) (by kernel_rfl) (fun _ _ _ h => h) (Or.inl ⟨by rfl, ?_⟩) (by assumption) ?_
              rotate_left 1
              · intro w hSw; (try dsimp only at hSw); go_simp; try (with_reducible rfl)
              try simp only [Act.put, List.setIfInBounds_toArray, List.set_cons_zero, List.set_cons_succ]
              refine wpAnyH_take (i := 7) (oi := ⟨some 22, _, _, _, _, _⟩) (v := ?_) rfl (by kernel_rfl) (by kernel_rfl) (by kernel_rfl) (fun _ _ _ h => h) (Or.inl ⟨by rfl, ?_⟩) (by assumption) ?_
              rotate_left 1
              · intro w hSw; (try dsimp only at hSw); go_simp; try (with_reducible rfl)
              try simp only [Act.put, List.setIfInBounds_toArray, List.set_cons_zero, List.set_cons_succ]
              refine wpAnyH_take (i := 8) (oi := ⟨some 23, _, _, _, _, _⟩) (v := ?_) rfl (by kernel_rfl) (by kernel_rfl) (by kernel_rfl) (fun _ _ _ h => h) (Or.inl ⟨by rfl, ?_⟩) (by assumption) ?_
              rotate_left 1
              · intro w hSw; (try dsimp only at hSw); go_simp; try (with_reducible rfl)
              try simp only [Act.put, List.setIfInBounds_toArray, List.set_cons_zero, List.set_cons_succ]
              refine wpAnyH_take (i := 9) (oi := ⟨some 24, _, _, _, _, _⟩) (v := ?_) rfl (by kernel_rfl) (by kernel_rfl) (by kernel_rfl) (fun _ _ _ h => h) (Or.inl ⟨by rfl, ?_⟩) (by assumption) ?_
              rotate_left 1
              · intro w hSw; (try dsimp only at hSw); go_simp; try (with_reducible rfl)
              try simp only [Act.put, List.setIfInBounds_toArray, List.set_cons_zero, List.set_cons_succ]
              refine wpAnyH_take (i := 10) (oi := ⟨some 25, _, _, _, _, _⟩) (v := ?_) rfl (by kernel_rfl) (by kernel_rfl) (by kernel_rfl) (fun _ _ _ h => h) (Or.inl ⟨by rfl, ?_⟩) (by assumption) ?_
              rotate_left 1
              · intro w hSw; (try dsimp only at hSw); go_simp; try (with_reducible rfl)
              try simp only [Act.put, List.setIfInBounds_toArray, List.set_cons_zero, List.set_cons_succ]
              refine wpAnyH_take (i := 11) (oi := ⟨some 26, _, _, _, _, _⟩) (v := ?_) rfl (by kernel_rfl) (by kernel_rfl) (by kernel_rfl) (fun _ _ _ h => h) (Or.inl ⟨by rfl, ?_⟩) (by assumption) ?_
              rotate_left 1
              · intro w hSw; (try dsimp only at hSw); go_simp; try (with_reducible rfl)
              try simp only [Act.put, List.setIfInBounds_toArray, List.set_cons_zero, List.set_cons_succ]
              refine wpAnyH_take (i := 12) (oi := ⟨some 27, _, _, _, _, _⟩) (v := ?_) rfl (by kernel_rfl) (by kernel_rfl) (by kernel_rfl) (fun _ _ _ h => h) (Or.inl ⟨by rfl, ?_⟩) (by assumption) ?_
              rotate_left 1
              · intro w hSw; (try dsimp only at hSw); go_simp; try (with_reducible rfl)
              try simp only [Act.put, List.setIfInBounds_toArray, List.set_cons_zero, List.set_cons_succ]
              refine wpAnyH_take (i := 13) (oi := ⟨some 28, _, _, _, _, _⟩) (v := ?_) rfl (by kernel_rfl) (by kernel_rfl) (by kernel_rfl) (fun _ _ _ h => h) (Or.inl ⟨by rfl, ?_⟩) (by assumption) ?_
              rotate_left 1
              · intro w hSw; (try dsimp only at hSw); go_simp; try (with_reducible rfl)
              try simp only [Act.put, List.setIfInBounds_toArray, List.set_cons_zero, List.set_cons_succ]
              refine wpAnyH_take (i := 14) (oi := ⟨some 29, _, _, _, _, _⟩) (v := ?_) rfl (by kernel_rfl) (by kernel_rfl) (by kernel_rfl) (fun _ _ _ h => h) (Or.inl ⟨by rfl, ?_⟩) (by assumption) ?_
              rotate_left 1
              · intro w hSw; (try dsimp only at hSw); go_simp; try (with_reducible rfl)
              try simp only [Act.put, List.setIfInBounds_toArray, List.set_cons_zero, List.set_cons_succ]
              refine wpAnyH_ready (rs := [15]) (by kernel_rfl) (by simp) ?_
              refine AllReadyH.cons (o := ⟨some 30, _, _, _, _, _⟩) rfl (fun K hK => ?_) AllReadyH.nil
              go_simp
              refine (sc _).mono ?_
              rintro e w3 ⟨rfl, hb⟩
              go_wp2_with fail
              refine hK.out _ _ ?_ (fun hHeld2 => ?_)
              · exact ⟨cell_later hb hHeld.1, cell_later hb hHeld.2.1, cell_later hb hHeld.2.2.1, cell_later hb hHeld.2.2.2.1, cell_later hb hHeld.2.2.2.2.1, cell_later hb hHeld.2.2.2.2.2.1, hHeld.2.2.2.2.2.2.trans (hb.mono hHeld.2.2.2.2.2.2.size)⟩
              clear hK K hHeld hb
              have hHeld := hHeld2
              clear hHeld2
              try simp only [Act.put, List.setIfInBounds_toArray, List.set_cons_zero, List.set_cons_succ]
              refine wpAnyH_take (i := 16) (oi := ⟨some 31, _, _, _, _, _⟩) (v := ?_) rfl (by kernel_rfl) (by kernel_rfl) (by kernel_rfl) (fun _ _ _ h => h) (Or.inl ⟨by rfl, ?_⟩) (by assumption) ?_
              rotate_left 1
              · intro w hSw; (try dsimp only at hSw); go_simp; try (with_reducible rfl)
              try simp only [Act.put, List.setIfInBounds_toArray, List.set_cons_zero, List.set_cons_succ]
              refine wpAnyH_take (i := 17) (oi := ⟨some 32, _, _, _, _, _⟩) (v := ?_) rfl (by kernel_rfl) (by kernel_rfl) (by kernel_rfl) (fun _ _ _ h => h) (Or.inl ⟨by rfl, ?_⟩) (by assumption) ?_
              rotate_left 1
              · intro w hSw; (try dsimp only at hSw); go_simp; try (with_reducible rfl)
              try simp only [Act.put, List.setIfInBounds_toArray, List.set_cons_zero, List.set_cons_succ]
              refine wpAnyH_take (i := 18) (oi := ⟨some 33, _, _, _, _, _⟩) (v := ?_) rfl (by kernel_rfl) (by kernel_rfl) (by kernel_rfl) (fun _ _ _ h => h) (Or.inl ⟨by rfl, ?_⟩) (by assumption) ?_
              rotate_left 1
              · intro w hSw; (try dsimp only at hSw); go_simp; try (with_reducible rfl)
              try simp only [Act.put, List.setIfInBounds_toArray, List.set_cons_zero, List.set_cons_succ]
              refine wpAnyH_done (by kernel_rfl) ?_ _
              try simp only [Act.put, List.setIfInBounds_toArray, List.set_cons_zero, List.set_cons_succ]
              have D2 := Lib.hid (hnx.out.trans (hHeld.2.2.2.2.2.2.mono hnx.out.size))
              clear hHeld hI nv sc
              go_wp2_with fail
              go_ret
              exact ⟨rfl, D2.out⟩
      · obtain rfl : k = n := by omega
        have hR := Lib.hid (nod_good (N := N) (by rw [hn.out]; exact hl) (fun j hj => hS.out.1 j (by rw [← hn.out]; exact hj)) (fun j hj => hS.out.2 j (by rw [← hn.out]; exact hj)))
        obtain rfl : true = c := hR.out.symm.trans hc.out
        have hnx := Lib.hid hnx
        clear h hS hc
        go_wp2_with fail
        go_ret
        exact ⟨rfl, hnx.out⟩
  · have hR := Lib.hid (nod_long (N := N) (by rw [hn.out]; exact hl))
    have hl' : 12 < n := by omega
    obtain rfl : false = c := hR.out.symm.trans hc.out
    clear h hc
    go_enter Tryd.func71, Tryd.ntmps71
    go_wp2_with fail
    go_ret
    exact ⟨rfl, Below.refl _ _⟩

theorem inval_nil (a : Option Addr) (ca : Nat) (w : World) :
    Calls Tryd.prog 71 #[.slice a 0 ca] w fun e w' => e = .returned (.bool (nodB [])) ∧ Below w.heap.size w w' := by
  rw [show nodB [] = true from rfl]
  go_enter Tryd.func71, Tryd.ntmps71
  go_wp2_with fail
  refine wp_loop_rounds 1 ?_
  rw [rounds_succ]
  go_wp2_with fail
  go_ret
  exact ⟨rfl, Below.refl _ _⟩

theorem inval_any (u : Value) (N : List Nd) (w : World) (h : Nds w u N) :
    Calls Tryd.prog 71 #[u] w fun e w' => e = .returned (.bool (nodB N)) ∧ Below w.heap.size w w' := by
  obtain ⟨a, cap, rfl, h1, h2, h3⟩ := h
  rcases h3 with h3 | ⟨b, off, rfl, h4, h5⟩
  · obtain rfl : N = [] := List.length_eq_zero_iff.1 h3
    exact inval_nil a cap w
  · exact inval_at b off cap N w h4 h2 h5
end Go.Proofs.YtbbnchodchgioaaDoor

/- The program's many. -/
namespace Go.Proofs.YtbbnchodchgioaaDoor
open Go.RowKit
set_option linter.unusedVariables false

set_option maxRecDepth 100000 in
set_option maxHeartbeats 2000000 in
theorem many_any (f : Nat → Nat) (w : World) (hf : ∀ r, f r < 2251799813685248) :
    Calls Tryd.prog 67 #[setV f] w fun e w' => e = .returned (.int .i64 (manyN f)) ∧ Below w.heap.size w w' := by
  have c0 := fun w => ones_any (f 0) w (by have := hf 0; omega)
  have c1 := fun w => ones_any (f 1) w (by have := hf 1; omega)
  have c2 := fun w => ones_any (f 2) w (by have := hf 2; omega)
  have c3 := fun w => ones_any (f 3) w (by have := hf 3; omega)
  have c4 := fun w => ones_any (f 4) w (by have := hf 4; omega)
  have b0 := pc_le 64 (f 0); have b1 := pc_le 64 (f 1); have b2 := pc_le 64 (f 2); have b3 := pc_le 64 (f 3); have b4 := pc_le 64 (f 4)
  have k0 := fun w => sx_i0 (.int .u64 (f 0)) (.int .u64 (f 1)) (.int .u64 (f 2)) (.int .u64 (f 3)) (.int .u64 (f 4)) w
  have k1 := fun w => sx_i1 (.int .u64 (f 0)) (.int .u64 (f 1)) (.int .u64 (f 2)) (.int .u64 (f 3)) (.int .u64 (f 4)) w
  have k2 := fun w => sx_i2 (.int .u64 (f 0)) (.int .u64 (f 1)) (.int .u64 (f 2)) (.int .u64 (f 3)) (.int .u64 (f 4)) w
  have k3 := fun w => sx_i3 (.int .u64 (f 0)) (.int .u64 (f 1)) (.int .u64 (f 2)) (.int .u64 (f 3)) (.int .u64 (f 4)) w
  have k4 := fun w => sx_i4 (.int .u64 (f 0)) (.int .u64 (f 1)) (.int .u64 (f 2)) (.int .u64 (f 3)) (.int .u64 (f 4)) w
  clear hf
  unfold setV manyN
  generalize pc 64 (f 0) = p0 at *
  generalize pc 64 (f 1) = p1 at *
  generalize pc 64 (f 2) = p2 at *
  generalize pc 64 (f 3) = p3 at *
  generalize pc 64 (f 4) = p4 at *
  go_enter Tryd.func67, Tryd.ntmps67
  go_wp2_with fail
  refine wp_loop_rounds 6 ?_
  rw [rounds_succ]
  go_wp2_with fail
  refine (c0 _).mono ?_
  rintro e w1 ⟨rfl, rfl⟩
  go_wp2_with fail
  rw [rounds_succ]
  go_wp2_with fail
  refine (c1 _).mono ?_
  rintro e w1 ⟨rfl, rfl⟩
  go_wp2_with fail
  rw [rounds_succ]
  go_wp2_with fail
  refine (c2 _).mono ?_
  rintro e w1 ⟨rfl, rfl⟩
  go_wp2_with fail
  rw [rounds_succ]
  go_wp2_with fail
  refine (c3 _).mono ?_
  rintro e w1 ⟨rfl, rfl⟩
  go_wp2_with fail
  rw [rounds_succ]
  go_wp2_with fail
  refine (c4 _).mono ?_
  rintro e w1 ⟨rfl, rfl⟩
  go_wp2_with fail
  rw [rounds_succ]
  go_wp2_with fail
  go_ret
  exact ⟨by congr 2, (Below.refl _ _).alloc (Nat.le_refl _) _⟩
end Go.Proofs.YtbbnchodchgioaaDoor

/- The program's ids of a set. -/
namespace Go.Proofs.YtbbnchodchgioaaDoor
open Go.RowKit
set_option linter.unusedVariables false

theorem TabIn.up {w w' : World} {B : Nat} (h : TabIn w) (hb : Below B w w') (hB : w.heap.size ≤ B) : TabIn w' := by
  intro j hj
  have hc := h j hj
  have hl : 0 < w.heap.size := by simpa using World.block_lt_of_cell? w _ hc
  exact (hb.cell (p := ⟨0, j, none⟩) (Nat.lt_of_lt_of_le hl hB)).trans hc

theorem make_cap (n : Nat) (hn : n ≤ 2000000) (w : World) : (Instr.makeSlice 28 (.int .i64 0) (.int .i64 n)).run Tryd.prog w = .ok (.slice (some ⟨w.heap.size, 0, none⟩) 0 n) (w.alloc (.cells (madeCells #[.int .i64 0, .int .i64 0] (n * 2)) 25)) := by
  obtain ⟨i, hi, hz, hs, hb⟩ := info_parts info_id
  have hr := run_make (P := Tryd.prog) w 28 25 i _ Tryd.underlying28 hi hz .i64 .i64 0 n (by omega) (by omega) (by rw [hb]; omega) (by omega)
  simp only [Int.toNat_natCast, hs] at hr
  exact hr
theorem madeP_size (n : Nat) : (madeCells #[.int .i64 0, .int .i64 0] (n * 2)).size = n * 2 := by simp [madeCells]
theorem row_cap (w : World) (n B : Nat) (hB : B ≤ w.heap.size) (hn : n ≤ 2000000) : Row (w.alloc (.cells (madeCells #[.int .i64 0, .int .i64 0] (n * 2)) 25)) B (.slice (some ⟨w.heap.size, 0, none⟩) 0 n) [] :=
  ⟨World.ownsRow_made _ _ n hB (by unfold maxLen; omega) (madeP_size n), by simp⟩

theorem ido_next {w w1 w2 : World} {v v' : Value} {O : List Pid} {x y : Int} {o : Obj} (hR : Row w1 w.heap.size v O) (hown : w2.ownsRow w.heap.size 25 2 v' (O.length + 1) (flatP O ++ [.int .i64 x, .int .i64 y]))
    (hg : (w1.alloc o).grownBy w2 (Value.ownBlock v)) (hn : v' ≠ .slice none 0 0) (D : Below w.heap.size w w1) : Row w2 w.heap.size v' (O ++ [(x, y)]) ∧ Below w.heap.size w w2 := by
  have hR1 : Row (w1.alloc o) w.heap.size v O := hR.up ((Below.refl _ _).alloc (Nat.le_refl _) _)
  exact ⟨hR.put hown hn, (D.alloc D.size o).trans (grown_below hR1 hg (by have := D.size; simp; omega))⟩

/-- What ids leaves. -/
def IdsoPost (f : Nat → Nat) (w : World) (e : Ending) (w' : World) : Prop :=
  ∃ b u, w.heap.size ≤ b ∧ e = .returned u ∧ OwnP w' b u (idsO f) ∧ Below w.heap.size w w'

theorem ido_len {f : Nat → Nat} {O X Y : List Pid} (h : O ++ (X ++ Y) = idsO f) : O.length ≤ 320 := by
  have := congrArg List.length h
  rw [List.length_append, idsO_len] at this
  have := manyN_le f
  omega

set_option maxRecDepth 100000 in
set_option maxHeartbeats 4000000 in
theorem idso_any (f : Nat → Nat) (w : World) (hf : ∀ r, f r < 2251799813685248) (hT : TabIn w) :
    Calls Tryd.prog 42 #[setV f] w (IdsoPost f w) := by
  obtain ⟨i0, hi, hz0, hz1, hz2⟩ := info_parts infoP
  have sm := fun w => many_any f w hf
  have hml := manyN_le f
  obtain ⟨mn, hmn⟩ : ∃ n, Hid (manyN f = n) := ⟨_, Lib.hid rfl⟩
  rw [hmn.out] at sm hml
  have hmk := make_cap mn (by omega)
  have ki : ∀ (r : Nat), r < 5 → ∀ w : World, (Instr.index 56 (.agg #[.int .u64 (f 0), .int .u64 (f 1), .int .u64 (f 2), .int .u64 (f 3), .int .u64 (f 4)]) (.int .i64 r)).run Tryd.prog w = .ok (.int .u64 (f r)) w := by
    intro r hr w
    rcases (show r = 0 ∨ r = 1 ∨ r = 2 ∨ r = 3 ∨ r = 4 by omega) with rfl | rfl | rfl | rfl | rfl
    · exact sx_i0 _ _ _ _ _ w
    · exact sx_i1 _ _ _ _ _ w
    · exact sx_i2 _ _ _ _ _ w
    · exact sx_i3 _ _ _ _ _ w
    · exact sx_i4 _ _ _ _ _ w
  have ki := Lib.hid ki
  have hf := Lib.hid hf
  have hT := Lib.hid hT
  unfold setV at sm ⊢
  go_enter Tryd.func42, Tryd.ntmps42
  go_wp2_with fail
  refine (sm _).mono ?_
  rintro e w1 ⟨rfl, hb⟩
  have A1 := (hb.block w.heap.size (by simp)).trans (heap_alloc_new w (.cells #[.int .u64 (f 0), .int .u64 (f 1), .int .u64 (f 2), .int .u64 (f 3), .int .u64 (f 4)] 56))
  have z1 : w.heap.size + 1 ≤ w1.heap.size := by simpa using hb.size
  have D1 := ((Below.refl w.heap.size w).alloc (Nat.le_refl _) (.cells #[.int .u64 (f 0), .int .u64 (f 1), .int .u64 (f 2), .int .u64 (f 3), .int .u64 (f 4)] 56)).trans (hb.mono (by simp))
  have A2 : Set5 (w1.alloc (.cells (madeCells #[.int .i64 0, .int .i64 0] (mn * 2)) 25)) w.heap.size f := (Below.heap_alloc _ _ _ (by omega)).trans A1
  obtain ⟨x0, x1, x2, x3, x4⟩ := A2.five
  have A1' : Set5 w1 w.heap.size f := A1
  obtain ⟨y0, y1, y2, y3, y4⟩ := A1'.five
  have R1 := Lib.hid (row_cap w1 mn w.heap.size (by omega) (by omega))
  have D2 := Lib.hid (D1.alloc (by omega) (.cells (madeCells #[.int .i64 0, .int .i64 0] (mn * 2)) 25))
  clear hb A1 A1' A2 D1 sm
  go_wp2_with fail
  clear hmk x0 x1 x2 x3 x4 y0 y1 y2 y3 y4 hml hmn
  go_loopw [3, 10] (fun v i wr => ∃ r : Nat, r ≤ 5 ∧ i = .int .i64 r ∧ ∃ O : List Pid, Hid (O ++ idsFrom f r (5 - r) = idsO f) ∧ Hid (Row wr w.heap.size v O) ∧ Hid (Below w.heap.size w wr)) (fun _ i _ => 5 - (intOf i).toNat)
  case atStart => exact ⟨0, Nat.zero_le _, rfl, [], Lib.hid rfl, R1, D2⟩
  case round =>
    obtain ⟨r, hr, rfl, O, hE, hR, hD⟩ := hrel
    clear R1 D2
    obtain ⟨wo, rfl⟩ : ∃ wo : World, wo = wr := ⟨_, rfl⟩
    by_cases hlt : r < 5
    · have kk := ki.out r hlt
      have hfr := Lib.hid (hf.out r)
      have hE : Hid (O ++ (bitsL r (f r) ++ idsFrom f (r + 1) (4 - r)) = idsO f) := Lib.hid (by rw [← hE.out, show 5 - r = (4 - r) + 1 by omega, idsFrom])
      go_wp2_with fail
      simp only [show decide ((r : Int) < 5) = true from decide_eq_true (by omega)]
      go_loopw [3, 5] (fun v q wr => ∃ m : Nat, Hid (m < 2251799813685248) ∧ q = .int .u64 m ∧ ∃ O : List Pid, Hid (O ++ (bitsL r m ++ idsFrom f (r + 1) (4 - r)) = idsO f) ∧ Hid (Row wr w.heap.size v O) ∧ Hid (Below w.heap.size w wr)) (fun _ q _ => (intOf q).toNat)
      case atStart => exact ⟨f r, hfr, rfl, O, hE, hR, hD⟩
      case round =>
        obtain ⟨m, hm, rfl, O, hE, hR, hD⟩ := hrel
        have hOl := ido_len hE.out
        have hm' := hm.out
        by_cases hm0 : m = 0
        · subst hm0
          have hE : Hid (O ++ idsFrom f (r + 1) (5 - (r + 1)) = idsO f) := Lib.hid (by rw [← hE.out, bitsL_zero, List.nil_append, show 5 - (r + 1) = 4 - r by omega])
          clear hm'
          go_wp2_with fail
          go_roundw
          case rel => exact ⟨r + 1, by omega, by go_num, O, hE, hR, hD⟩
          case measure => simp [intOf]; omega
        · have hm0' : ((m : Int) == 0) = false := by simpa using hm0
          have hm0n : ((m : Int) != 0) = true := by simpa using hm0
          have tz := tz_any m wr (by omega) hm0 (hT.out.up hD.out (Nat.le_refl _))
          have hE2 : Hid ((O ++ [((r : Int), ((Lib.ctz 64 m : Nat) : Int))]) ++ (bitsL r (m &&& (m - 1)) ++ idsFrom f (r + 1) (4 - r)) = idsO f) := Lib.hid (by rw [← hE.out, bitsL_cons hm0 (by omega)]; simp)
          have hless := low_less hm0
          have ws : IntKind.u64.wrap ((m : Int) - 1) = ((m - 1 : Nat) : Int) := by rw [show ((m : Int) - 1) = ((m - 1 : Nat) : Int) by omega]; exact wrapN _ (by omega)
          have wa : bits .and .u64 (m : Int) ((m - 1 : Nat) : Int) = ((m &&& (m - 1) : Nat) : Int) := bits_and_u64_nat m (m - 1) (by omega) (by omega)
          generalize m &&& (m - 1) = m' at hE2 hless wa
          generalize Lib.ctz 64 m = t at tz hE2
          obtain ⟨mp, hmp⟩ : ∃ k, Hid (m - 1 = k) := ⟨_, Lib.hid rfl⟩
          rw [hmp.out] at ws wa
          have hm2 := Lib.hid (show m' < 2251799813685248 by omega)
          clear hE hm'
          go_wp2_with fail
          refine tz.mono ?_
          rintro e w3 ⟨rfl, rfl⟩
          clear tz
          go_wp2_with (at_builtin; refine wpList_append_own _ rfl _ _ 28 rfl w.heap.size 25 i0 (.agg #[.int .i64 0, .int .i64 0]) 2 16 Tryd.underlying28 hi hz0 hz1 hz2 rfl (by decide) _ _ _ rfl (hR.out.1.alloc _) ⟨wr.heap.size, 0, none⟩ 1 1 [.int .i64 r, .int .i64 t] rfl rfl ?c1 ?c2 ?c3 ?c4 ?c5 ?_)
          case c1 => exact two_cells _ _ _ _ _ (by simp)
          case c2 => intro u hu; simp at hu; rcases hu with rfl | rfl <;> rfl
          case c3 => unfold maxLen; omega
          case c4 => omega
          case c5 => have := hD.out.size; simp; omega
          intro v' w4 hown' hgrow hnil
          have X := ido_next hR.out hown' hgrow (fun e => hnil e) hD.out
          have hR' := Lib.hid X.1
          have hD' := Lib.hid X.2
          clear X hown' hgrow hnil hR hD
          go_wp2_with fail
          go_roundw
          case rel => exact ⟨m', hm2, by go_num, _, hE2, hR', hD'⟩
          case measure => simp [intOf]; omega
    · obtain rfl : r = 5 := by omega
      have hE : Hid (O = idsO f) := Lib.hid (by rw [← hE.out]; simp [idsFrom])
      have hOl : O.length ≤ 320 := by rw [hE.out, idsO_len]; exact manyN_le f
      obtain ⟨o, ho, hown⟩ := hR.out.own (by omega)
      have hown := Lib.hid hown
      clear hR
      go_wp2_with fail
      go_ret
      exact ⟨o, _, ho, rfl, by rw [← hE.out]; exact hown.out, hD.out⟩
end Go.Proofs.YtbbnchodchgioaaDoor

/- The program's within, of sets. -/
namespace Go.Proofs.YtbbnchodchgioaaDoor
open Go.RowKit
set_option linter.unusedVariables false

/-- Two sets are compared. -/
theorem set_eq (x0 x1 x2 x3 x4 y0 y1 y2 y3 y4 : Int) (w : World) : (binOp .eql 56 (.agg #[.int .u64 x0, .int .u64 x1, .int .u64 x2, .int .u64 x3, .int .u64 x4]) (.agg #[.int .u64 y0, .int .u64 y1, .int .u64 y2, .int .u64 y3, .int .u64 y4])).run Tryd.prog w = .ok (.bool (decide ([x0, x1, x2, x3, x4] = [y0, y1, y2, y3, y4]))) w := by
  have hp : ∀ (cs : Array Value) (k : Nat) (v : Value), cs[k]? = some v → (part 54 cs k).run Tryd.prog w = .ok v w := by
    intro cs k v h
    have ha : (isAgg 54).run Tryd.prog w = .ok false w := by kernel_rfl
    simp [part, ha, h]
  have hs : (sizeOf 54).run Tryd.prog w = .ok 1 w := by kernel_rfl
  have hu : (underlying 56).run Tryd.prog w = .ok (.array 5 54) w := by kernel_rfl
  rw [run_eql_struct, show (10000:Nat) = 9998+1+1 from rfl]
  have he : ∀ a b : Int, (Op.equalIn (9998 + 1) 54 (.int .u64 a) (.int .u64 b)).run Tryd.prog w = .ok (a == b) w := fun a b => run_equalIn_int _ _ _ _ .u64 _ _ Tryd.underlying54
  rw [Op.equalIn]
  simp [hu, hs, hp, he, Std.Legacy.Range.forIn_eq_forIn_range', Std.Legacy.Range.size, List.range'_succ, List.range'_zero, List.forIn_cons, List.forIn_nil]
  by_cases h0 : x0 = y0 <;> by_cases h1 : x1 = y1 <;> by_cases h2 : x2 = y2 <;> by_cases h3 : x3 = y3 <;> by_cases h4 : x4 = y4 <;> simp [h0, h1, h2, h3, h4]

theorem five_iff (f g : Nat → Nat) : ([(f 0 : Int), (f 1 : Int), (f 2 : Int), (f 3 : Int), (f 4 : Int)] = [(g 0 : Int), (g 1 : Int), (g 2 : Int), (g 3 : Int), (g 4 : Int)]) ↔ ∀ r, r < 5 → f r = g r := by
  constructor
  · intro h r hr
    injection h with h0 h; injection h with h1 h; injection h with h2 h; injection h with h3 h; injection h with h4 h
    rcases (show r = 0 ∨ r = 1 ∨ r = 2 ∨ r = 3 ∨ r = 4 by omega) with rfl | rfl | rfl | rfl | rfl <;> omega
  · intro h
    rw [h 0 (by omega), h 1 (by omega), h 2 (by omega), h 3 (by omega), h 4 (by omega)]

/-- What within answers. -/
def inF (f g : Nat → Nat) : Bool := decide (joinF f g 0 = g 0 ∧ joinF f g 1 = g 1 ∧ joinF f g 2 = g 2 ∧ joinF f g 3 = g 3 ∧ joinF f g 4 = g 4)
theorem five_all (P : Nat → Prop) : (P 0 ∧ P 1 ∧ P 2 ∧ P 3 ∧ P 4) ↔ ∀ r, r < 5 → P r := by
  constructor
  · rintro ⟨h0, h1, h2, h3, h4⟩ r hr
    rcases (show r = 0 ∨ r = 1 ∨ r = 2 ∨ r = 3 ∨ r = 4 by omega) with rfl | rfl | rfl | rfl | rfl <;> assumption
  · intro h
    exact ⟨h 0 (by omega), h 1 (by omega), h 2 (by omega), h 3 (by omega), h 4 (by omega)⟩
theorem inF_iff {f g : Nat → Nat} : inF f g = true ↔ ∀ r, r < 5 → joinF f g r = g r := by
  unfold inF; rw [decide_eq_true_iff]; exact five_all fun r => joinF f g r = g r

theorem ten_up {w wr w' : World} {p q : Nat} {x0 x1 x2 x3 x4 y0 y1 y2 y3 y4 : Value} (B : Below wr.heap.size wr w') (h : ((wr.cell? ⟨p, 0, none⟩ = some x0 ∧ wr.cell? ⟨p, 1, none⟩ = some x1 ∧ wr.cell? ⟨p, 2, none⟩ = some x2 ∧ wr.cell? ⟨p, 3, none⟩ = some x3 ∧ wr.cell? ⟨p, 4, none⟩ = some x4) ∧ wr.cell? ⟨q, 0, none⟩ = some y0 ∧ wr.cell? ⟨q, 1, none⟩ = some y1 ∧ wr.cell? ⟨q, 2, none⟩ = some y2 ∧ wr.cell? ⟨q, 3, none⟩ = some y3 ∧ wr.cell? ⟨q, 4, none⟩ = some y4) ∧ Below w.heap.size w wr) : ((w'.cell? ⟨p, 0, none⟩ = some x0 ∧ w'.cell? ⟨p, 1, none⟩ = some x1 ∧ w'.cell? ⟨p, 2, none⟩ = some x2 ∧ w'.cell? ⟨p, 3, none⟩ = some x3 ∧ w'.cell? ⟨p, 4, none⟩ = some x4) ∧ w'.cell? ⟨q, 0, none⟩ = some y0 ∧ w'.cell? ⟨q, 1, none⟩ = some y1 ∧ w'.cell? ⟨q, 2, none⟩ = some y2 ∧ w'.cell? ⟨q, 3, none⟩ = some y3 ∧ w'.cell? ⟨q, 4, none⟩ = some y4) ∧ Below w.heap.size w w' := by
  obtain ⟨⟨⟨a0, a1, a2, a3, a4⟩, b0, b1, b2, b3, b4⟩, d⟩ := h
  exact ⟨⟨⟨cell_later B a0, cell_later B a1, cell_later B a2, cell_later B a3, cell_later B a4⟩, cell_later B b0, cell_later B b1, cell_later B b2, cell_later B b3, cell_later B b4⟩, bstep d B⟩

set_option maxRecDepth 100000 in
set_option maxHeartbeats 4000000 in
theorem within_any (f g : Nat → Nat) (w : World) (hf : ∀ r, f r < 2251799813685248) (hg : ∀ r, g r < 2251799813685248) :
    Calls Tryd.prog 84 #[setV f, setV g] w fun e w' => e = .returned (.bool (inF f g)) ∧ Below w.heap.size w w' := by
  have sj := fun w => join_any f g w hf hg
  have se := fun w => set_eq (joinF f g 0) (joinF f g 1) (joinF f g 2) (joinF f g 3) (joinF f g 4) (g 0) (g 1) (g 2) (g 3) (g 4) w
  have hd : decide ([(joinF f g 0 : Int), (joinF f g 1 : Int), (joinF f g 2 : Int), (joinF f g 3 : Int), (joinF f g 4 : Int)] = [(g 0 : Int), (g 1 : Int), (g 2 : Int), (g 3 : Int), (g 4 : Int)]) = inF f g := by
    unfold inF; exact decide_eq_decide.2 ((five_iff _ _).trans (five_all fun r => joinF f g r = g r).symm)
  rw [hd] at se
  clear hd hf hg
  generalize joinF f g = j at sj se
  generalize inF f g = q at se ⊢
  unfold setV at sj ⊢
  go_enter Tryd.func84, Tryd.ntmps84
  go_upto_region 1 with fail
  have D0 : Hid (Below w.heap.size w ((w.alloc (.cells #[.int .u64 (f 0), .int .u64 (f 1), .int .u64 (f 2), .int .u64 (f 3), .int .u64 (f 4)] 56)).alloc (.cells #[.int .u64 (g 0), .int .u64 (g 1), .int .u64 (g 2), .int .u64 (g 3), .int .u64 (g 4)] 56)).drew) := Lib.hid (((Below.refl _ _).alloc (Nat.le_refl _) _).alloc (by simp) _).drew
  have A0 : Hid (Set5 ((w.alloc (.cells #[.int .u64 (f 0), .int .u64 (f 1), .int .u64 (f 2), .int .u64 (f 3), .int .u64 (f 4)] 56)).alloc (.cells #[.int .u64 (g 0), .int .u64 (g 1), .int .u64 (g 2), .int .u64 (g 3), .int .u64 (g 4)] 56)) w.heap.size f) := Lib.hid ((Below.heap_alloc _ _ _ (by simp)).trans (heap_alloc_new w _))
  have B0 : Hid (Set5 ((w.alloc (.cells #[.int .u64 (f 0), .int .u64 (f 1), .int .u64 (f 2), .int .u64 (f 3), .int .u64 (f 4)] 56)).alloc (.cells #[.int .u64 (g 0), .int .u64 (g 1), .int .u64 (g 2), .int .u64 (g 3), .int .u64 (g 4)] 56)) (w.heap.size + 1) g) := Lib.hid (heap_alloc_at _ _ _ (by simp))
  have hz : ((w.alloc (.cells #[.int .u64 (f 0), .int .u64 (f 1), .int .u64 (f 2), .int .u64 (f 3), .int .u64 (f 4)] 56)).alloc (.cells #[.int .u64 (g 0), .int .u64 (g 1), .int .u64 (g 2), .int .u64 (g 3), .int .u64 (g 4)] 56)).heap.size = w.heap.size + 2 := by simp
  generalize ((w.alloc (.cells #[.int .u64 (f 0), .int .u64 (f 1), .int .u64 (f 2), .int .u64 (f 3), .int .u64 (f 4)] 56)).alloc (.cells #[.int .u64 (g 0), .int .u64 (g 1), .int .u64 (g 2), .int .u64 (g 3), .int .u64 (g 4)] 56)) = W at D0 A0 B0 hz ⊢
  obtain ⟨a0, a1, a2, a3, a4⟩ := A0.out.five
  obtain ⟨b0, b1, b2, b3, b4⟩ := B0.out.five
  clear A0 B0
  have S0 : Hid (((W.cell? ⟨w.heap.size, 0, none⟩ = some (.int .u64 (f 0)) ∧ W.cell? ⟨w.heap.size, 1, none⟩ = some (.int .u64 (f 1)) ∧ W.cell? ⟨w.heap.size, 2, none⟩ = some (.int .u64 (f 2)) ∧ W.cell? ⟨w.heap.size, 3, none⟩ = some (.int .u64 (f 3)) ∧ W.cell? ⟨w.heap.size, 4, none⟩ = some (.int .u64 (f 4))) ∧ W.cell? ⟨w.heap.size + 1, 0, none⟩ = some (.int .u64 (g 0)) ∧ W.cell? ⟨w.heap.size + 1, 1, none⟩ = some (.int .u64 (g 1)) ∧ W.cell? ⟨w.heap.size + 1, 2, none⟩ = some (.int .u64 (g 2)) ∧ W.cell? ⟨w.heap.size + 1, 3, none⟩ = some (.int .u64 (g 3)) ∧ W.cell? ⟨w.heap.size + 1, 4, none⟩ = some (.int .u64 (g 4))) ∧ Below w.heap.size w W.drew) := Lib.hid ⟨⟨⟨a0, a1, a2, a3, a4⟩, b0, b1, b2, b3, b4⟩, D0.out⟩
  clear a0 a1 a2 a3 a4 b0 b1 b2 b3 b4 D0
  go_region_held3 (fun w' => ((w'.cell? ⟨w.heap.size, 0, none⟩ = some (.int .u64 (f 0)) ∧ w'.cell? ⟨w.heap.size, 1, none⟩ = some (.int .u64 (f 1)) ∧ w'.cell? ⟨w.heap.size, 2, none⟩ = some (.int .u64 (f 2)) ∧ w'.cell? ⟨w.heap.size, 3, none⟩ = some (.int .u64 (f 3)) ∧ w'.cell? ⟨w.heap.size, 4, none⟩ = some (.int .u64 (f 4))) ∧ w'.cell? ⟨w.heap.size + 1, 0, none⟩ = some (.int .u64 (g 0)) ∧ w'.cell? ⟨w.heap.size + 1, 1, none⟩ = some (.int .u64 (g 1)) ∧ w'.cell? ⟨w.heap.size + 1, 2, none⟩ = some (.int .u64 (g 2)) ∧ w'.cell? ⟨w.heap.size + 1, 3, none⟩ = some (.int .u64 (g 3)) ∧ w'.cell? ⟨w.heap.size + 1, 4, none⟩ = some (.int .u64 (g 4))) ∧ Below w.heap.size w w') (first | exact S0.out | exact ten_up (by assumption) (by assumption))
    (first | (go_at_call 55; (with_reducible refine (sj _).mono ?_); rintro e w' ⟨rfl, hb⟩))
  rename_i hHeld
  go_wp2_with fail
  go_ret
  exact ⟨rfl, hHeld.2⟩
end Go.Proofs.YtbbnchodchgioaaDoor
