/- Texts laid together. -/
import Derived.Test.YtfcjhojkfchccaaDoorC13
import Derived.Deep.RegionWith
/- agree: a part of each answer is the same as that of the own proposal. -/
namespace Go.Proofs.YtfcjhojkfchccaaDoor
open Go.RowKit
set_option linter.unusedVariables false

theorem ag_keep6 {w wc w' : World} {b c : Nat} {x0 x1 x2 x3 x4 x5 x6 x7 x8 x9 x10 x11 z0 z1 z2 z3 z4 z5 : Value} (hb : Below wc.heap.size wc w') (h : ((wc.cell? ⟨b, 0, none⟩ = some x0 ∧ wc.cell? ⟨b, 1, none⟩ = some x1 ∧ wc.cell? ⟨b, 2, none⟩ = some x2 ∧ wc.cell? ⟨b, 3, none⟩ = some x3 ∧ wc.cell? ⟨b, 4, none⟩ = some x4 ∧ wc.cell? ⟨b, 5, none⟩ = some x5 ∧ wc.cell? ⟨b, 6, none⟩ = some x6 ∧ wc.cell? ⟨b, 7, none⟩ = some x7 ∧ wc.cell? ⟨b, 8, none⟩ = some x8 ∧ wc.cell? ⟨b, 9, none⟩ = some x9 ∧ wc.cell? ⟨b, 10, none⟩ = some x10 ∧ wc.cell? ⟨b, 11, none⟩ = some x11) ∧ (wc.cell? ⟨c, 0, none⟩ = some z0 ∧ wc.cell? ⟨c, 1, none⟩ = some z1 ∧ wc.cell? ⟨c, 2, none⟩ = some z2 ∧ wc.cell? ⟨c, 3, none⟩ = some z3 ∧ wc.cell? ⟨c, 4, none⟩ = some z4 ∧ wc.cell? ⟨c, 5, none⟩ = some z5)) ∧ Below w.heap.size w wc) : ((w'.cell? ⟨b, 0, none⟩ = some x0 ∧ w'.cell? ⟨b, 1, none⟩ = some x1 ∧ w'.cell? ⟨b, 2, none⟩ = some x2 ∧ w'.cell? ⟨b, 3, none⟩ = some x3 ∧ w'.cell? ⟨b, 4, none⟩ = some x4 ∧ w'.cell? ⟨b, 5, none⟩ = some x5 ∧ w'.cell? ⟨b, 6, none⟩ = some x6 ∧ w'.cell? ⟨b, 7, none⟩ = some x7 ∧ w'.cell? ⟨b, 8, none⟩ = some x8 ∧ w'.cell? ⟨b, 9, none⟩ = some x9 ∧ w'.cell? ⟨b, 10, none⟩ = some x10 ∧ w'.cell? ⟨b, 11, none⟩ = some x11) ∧ (w'.cell? ⟨c, 0, none⟩ = some z0 ∧ w'.cell? ⟨c, 1, none⟩ = some z1 ∧ w'.cell? ⟨c, 2, none⟩ = some z2 ∧ w'.cell? ⟨c, 3, none⟩ = some z3 ∧ w'.cell? ⟨c, 4, none⟩ = some z4 ∧ w'.cell? ⟨c, 5, none⟩ = some z5)) ∧ Below w.heap.size w w' :=
  ⟨⟨⟨cell_later hb h.1.1.1, cell_later hb h.1.1.2.1, cell_later hb h.1.1.2.2.1, cell_later hb h.1.1.2.2.2.1, cell_later hb h.1.1.2.2.2.2.1, cell_later hb h.1.1.2.2.2.2.2.1, cell_later hb h.1.1.2.2.2.2.2.2.1, cell_later hb h.1.1.2.2.2.2.2.2.2.1, cell_later hb h.1.1.2.2.2.2.2.2.2.2.1, cell_later hb h.1.1.2.2.2.2.2.2.2.2.2.1, cell_later hb h.1.1.2.2.2.2.2.2.2.2.2.2.1, cell_later hb h.1.1.2.2.2.2.2.2.2.2.2.2.2⟩, ⟨cell_later hb h.1.2.1, cell_later hb h.1.2.2.1, cell_later hb h.1.2.2.2.1, cell_later hb h.1.2.2.2.2.1, cell_later hb h.1.2.2.2.2.2.1, cell_later hb h.1.2.2.2.2.2.2⟩⟩, h.2.trans (hb.mono h.2.size)⟩
theorem ag_drew6 {w wc : World} {b c : Nat} {x0 x1 x2 x3 x4 x5 x6 x7 x8 x9 x10 x11 z0 z1 z2 z3 z4 z5 : Value} (h : ((wc.cell? ⟨b, 0, none⟩ = some x0 ∧ wc.cell? ⟨b, 1, none⟩ = some x1 ∧ wc.cell? ⟨b, 2, none⟩ = some x2 ∧ wc.cell? ⟨b, 3, none⟩ = some x3 ∧ wc.cell? ⟨b, 4, none⟩ = some x4 ∧ wc.cell? ⟨b, 5, none⟩ = some x5 ∧ wc.cell? ⟨b, 6, none⟩ = some x6 ∧ wc.cell? ⟨b, 7, none⟩ = some x7 ∧ wc.cell? ⟨b, 8, none⟩ = some x8 ∧ wc.cell? ⟨b, 9, none⟩ = some x9 ∧ wc.cell? ⟨b, 10, none⟩ = some x10 ∧ wc.cell? ⟨b, 11, none⟩ = some x11) ∧ (wc.cell? ⟨c, 0, none⟩ = some z0 ∧ wc.cell? ⟨c, 1, none⟩ = some z1 ∧ wc.cell? ⟨c, 2, none⟩ = some z2 ∧ wc.cell? ⟨c, 3, none⟩ = some z3 ∧ wc.cell? ⟨c, 4, none⟩ = some z4 ∧ wc.cell? ⟨c, 5, none⟩ = some z5)) ∧ Below w.heap.size w wc) : ((wc.drew.cell? ⟨b, 0, none⟩ = some x0 ∧ wc.drew.cell? ⟨b, 1, none⟩ = some x1 ∧ wc.drew.cell? ⟨b, 2, none⟩ = some x2 ∧ wc.drew.cell? ⟨b, 3, none⟩ = some x3 ∧ wc.drew.cell? ⟨b, 4, none⟩ = some x4 ∧ wc.drew.cell? ⟨b, 5, none⟩ = some x5 ∧ wc.drew.cell? ⟨b, 6, none⟩ = some x6 ∧ wc.drew.cell? ⟨b, 7, none⟩ = some x7 ∧ wc.drew.cell? ⟨b, 8, none⟩ = some x8 ∧ wc.drew.cell? ⟨b, 9, none⟩ = some x9 ∧ wc.drew.cell? ⟨b, 10, none⟩ = some x10 ∧ wc.drew.cell? ⟨b, 11, none⟩ = some x11) ∧ (wc.drew.cell? ⟨c, 0, none⟩ = some z0 ∧ wc.drew.cell? ⟨c, 1, none⟩ = some z1 ∧ wc.drew.cell? ⟨c, 2, none⟩ = some z2 ∧ wc.drew.cell? ⟨c, 3, none⟩ = some z3 ∧ wc.drew.cell? ⟨c, 4, none⟩ = some z4 ∧ wc.drew.cell? ⟨c, 5, none⟩ = some z5)) ∧ Below w.heap.size w wc.drew := ⟨h.1, h.2.drew⟩
theorem ag_keep5 {w wc w' : World} {b c : Nat} {x0 x1 x2 x3 x4 x5 x6 x7 x8 x9 x10 x11 z0 z1 z2 z3 z4 : Value} (hb : Below wc.heap.size wc w') (h : ((wc.cell? ⟨b, 0, none⟩ = some x0 ∧ wc.cell? ⟨b, 1, none⟩ = some x1 ∧ wc.cell? ⟨b, 2, none⟩ = some x2 ∧ wc.cell? ⟨b, 3, none⟩ = some x3 ∧ wc.cell? ⟨b, 4, none⟩ = some x4 ∧ wc.cell? ⟨b, 5, none⟩ = some x5 ∧ wc.cell? ⟨b, 6, none⟩ = some x6 ∧ wc.cell? ⟨b, 7, none⟩ = some x7 ∧ wc.cell? ⟨b, 8, none⟩ = some x8 ∧ wc.cell? ⟨b, 9, none⟩ = some x9 ∧ wc.cell? ⟨b, 10, none⟩ = some x10 ∧ wc.cell? ⟨b, 11, none⟩ = some x11) ∧ (wc.cell? ⟨c, 0, none⟩ = some z0 ∧ wc.cell? ⟨c, 1, none⟩ = some z1 ∧ wc.cell? ⟨c, 2, none⟩ = some z2 ∧ wc.cell? ⟨c, 3, none⟩ = some z3 ∧ wc.cell? ⟨c, 4, none⟩ = some z4)) ∧ Below w.heap.size w wc) : ((w'.cell? ⟨b, 0, none⟩ = some x0 ∧ w'.cell? ⟨b, 1, none⟩ = some x1 ∧ w'.cell? ⟨b, 2, none⟩ = some x2 ∧ w'.cell? ⟨b, 3, none⟩ = some x3 ∧ w'.cell? ⟨b, 4, none⟩ = some x4 ∧ w'.cell? ⟨b, 5, none⟩ = some x5 ∧ w'.cell? ⟨b, 6, none⟩ = some x6 ∧ w'.cell? ⟨b, 7, none⟩ = some x7 ∧ w'.cell? ⟨b, 8, none⟩ = some x8 ∧ w'.cell? ⟨b, 9, none⟩ = some x9 ∧ w'.cell? ⟨b, 10, none⟩ = some x10 ∧ w'.cell? ⟨b, 11, none⟩ = some x11) ∧ (w'.cell? ⟨c, 0, none⟩ = some z0 ∧ w'.cell? ⟨c, 1, none⟩ = some z1 ∧ w'.cell? ⟨c, 2, none⟩ = some z2 ∧ w'.cell? ⟨c, 3, none⟩ = some z3 ∧ w'.cell? ⟨c, 4, none⟩ = some z4)) ∧ Below w.heap.size w w' :=
  ⟨⟨⟨cell_later hb h.1.1.1, cell_later hb h.1.1.2.1, cell_later hb h.1.1.2.2.1, cell_later hb h.1.1.2.2.2.1, cell_later hb h.1.1.2.2.2.2.1, cell_later hb h.1.1.2.2.2.2.2.1, cell_later hb h.1.1.2.2.2.2.2.2.1, cell_later hb h.1.1.2.2.2.2.2.2.2.1, cell_later hb h.1.1.2.2.2.2.2.2.2.2.1, cell_later hb h.1.1.2.2.2.2.2.2.2.2.2.1, cell_later hb h.1.1.2.2.2.2.2.2.2.2.2.2.1, cell_later hb h.1.1.2.2.2.2.2.2.2.2.2.2.2⟩, ⟨cell_later hb h.1.2.1, cell_later hb h.1.2.2.1, cell_later hb h.1.2.2.2.1, cell_later hb h.1.2.2.2.2.1, cell_later hb h.1.2.2.2.2.2⟩⟩, h.2.trans (hb.mono h.2.size)⟩
theorem ag_drew5 {w wc : World} {b c : Nat} {x0 x1 x2 x3 x4 x5 x6 x7 x8 x9 x10 x11 z0 z1 z2 z3 z4 : Value} (h : ((wc.cell? ⟨b, 0, none⟩ = some x0 ∧ wc.cell? ⟨b, 1, none⟩ = some x1 ∧ wc.cell? ⟨b, 2, none⟩ = some x2 ∧ wc.cell? ⟨b, 3, none⟩ = some x3 ∧ wc.cell? ⟨b, 4, none⟩ = some x4 ∧ wc.cell? ⟨b, 5, none⟩ = some x5 ∧ wc.cell? ⟨b, 6, none⟩ = some x6 ∧ wc.cell? ⟨b, 7, none⟩ = some x7 ∧ wc.cell? ⟨b, 8, none⟩ = some x8 ∧ wc.cell? ⟨b, 9, none⟩ = some x9 ∧ wc.cell? ⟨b, 10, none⟩ = some x10 ∧ wc.cell? ⟨b, 11, none⟩ = some x11) ∧ (wc.cell? ⟨c, 0, none⟩ = some z0 ∧ wc.cell? ⟨c, 1, none⟩ = some z1 ∧ wc.cell? ⟨c, 2, none⟩ = some z2 ∧ wc.cell? ⟨c, 3, none⟩ = some z3 ∧ wc.cell? ⟨c, 4, none⟩ = some z4)) ∧ Below w.heap.size w wc) : ((wc.drew.cell? ⟨b, 0, none⟩ = some x0 ∧ wc.drew.cell? ⟨b, 1, none⟩ = some x1 ∧ wc.drew.cell? ⟨b, 2, none⟩ = some x2 ∧ wc.drew.cell? ⟨b, 3, none⟩ = some x3 ∧ wc.drew.cell? ⟨b, 4, none⟩ = some x4 ∧ wc.drew.cell? ⟨b, 5, none⟩ = some x5 ∧ wc.drew.cell? ⟨b, 6, none⟩ = some x6 ∧ wc.drew.cell? ⟨b, 7, none⟩ = some x7 ∧ wc.drew.cell? ⟨b, 8, none⟩ = some x8 ∧ wc.drew.cell? ⟨b, 9, none⟩ = some x9 ∧ wc.drew.cell? ⟨b, 10, none⟩ = some x10 ∧ wc.drew.cell? ⟨b, 11, none⟩ = some x11) ∧ (wc.drew.cell? ⟨c, 0, none⟩ = some z0 ∧ wc.drew.cell? ⟨c, 1, none⟩ = some z1 ∧ wc.drew.cell? ⟨c, 2, none⟩ = some z2 ∧ wc.drew.cell? ⟨c, 3, none⟩ = some z3 ∧ wc.drew.cell? ⟨c, 4, none⟩ = some z4)) ∧ Below w.heap.size w wc.drew := ⟨h.1, h.2.drew⟩

set_option maxRecDepth 100000 in
set_option maxHeartbeats 4000000 in
theorem iagA_at (p : Pr) (b off ca : Nat) (P : List Pr) (w : World) (hm : P.length ≤ 2000000) (h : PrsAt w b off P) :
    Calls Tryd.prog 44 #[p.val, .slice (some ⟨b, off, none⟩) P.length ca, .func (.func 45) #[] #[]] w fun e w' => e = .returned (.bool (P.all fun x => ofS x p)) ∧ Below w.heap.size w w' := by
  have h := Lib.hid h
  obtain ⟨f, hf⟩ : ∃ f : Pr → Bool, f = fun x => ofS x p := ⟨_, rfl⟩
  have hfx : ∀ x, f x = ofS x p := fun x => by rw [hf]
  rw [← hf]
  clear hf
  obtain ⟨n, hn⟩ : ∃ n, Hid (P.length = n) := ⟨_, Lib.hid rfl⟩
  rw [hn.out] at hm ⊢
  obtain ⟨⟨p1, p2⟩, bal, k, key, v, r, g⟩ := p
  have hfx := Lib.hid hfx
  unfold Pr.val prV
  dsimp only
  go_enter Tryd.func44, Tryd.ntmps44
  go_wp2_with fail
  refine (ioffer_any (p1, p2) bal k key v r g _).mono ?_
  rintro e w1 ⟨rfl, hb⟩
  have D0 := Lib.hid (bstep (Below.alloc (Below.refl w.heap.size w) (Nat.le_refl _) _) hb)
  clear hb
  unfold atV
  dsimp only
  go_upto_region 3 with fail
  have A := heap_alloc_new w1 (.cells #[.int .i64 r, .int .u64 (g 0), .int .u64 (g 1), .int .u64 (g 2), .int .u64 (g 3), .int .u64 (g 4)] 65)
  have D1 := Lib.hid (Below.alloc D0.out D0.out.size (.cells #[.int .i64 r, .int .u64 (g 0), .int .u64 (g 1), .int .u64 (g 2), .int .u64 (g 3), .int .u64 (g 4)] 65))
  obtain ⟨bw, hbw⟩ : ∃ bw, w1.heap.size = bw := ⟨_, rfl⟩
  rw [hbw] at A ⊢
  generalize w1.alloc (.cells #[.int .i64 r, .int .u64 (g 0), .int .u64 (g 1), .int .u64 (g 2), .int .u64 (g 3), .int .u64 (g 4)] 65) = w2 at A D1 ⊢
  clear hbw D0
  have A := Lib.hid A
  go_loopw [15] (fun i wr => ∃ j : Nat, j ≤ n ∧ i = .int .i64 j ∧ Hid (∀ t, t < j → f (P.getD t pr0) = true) ∧ Hid (Below w2.heap.size w2 wr)) (fun i _ => n - (intOf i).toNat)
  case atStart => exact ⟨0, Nat.zero_le _, rfl, Lib.hid (fun t ht => absurd ht (Nat.not_lt_zero _)), Lib.hid (Below.refl _ _)⟩
  case round =>
    obtain ⟨j, hj, rfl, hs, hnx⟩ := hrel
    by_cases hlt : j < n
    · have hkE : j < P.length := by rw [hn.out]; exact hlt
      have hA := (h.out.up D1.out (Nat.le_refl _)).up hnx.out (Nat.le_refl _)
      have hbl := hA.lt
      have hP := hA.at_ j hkE
      have W := (hnx.out.block bw (lt_of_heap A.out)).trans A.out
      have sc := fun W' => ioffer_any (P.getD j pr0).id (P.getD j pr0).bal (P.getD j pr0).k (P.getD j pr0).key (P.getD j pr0).v (P.getD j pr0).r (P.getD j pr0).g W'
      have hq := hfx.out (P.getD j pr0)
      unfold ofS at hq
      clear hfx
      obtain ⟨⟨z0, z1, z2, z3, z4, z5⟩, _, zl⟩ := all6 W
      have q0 := hP.c0
      have q1 := hP.c1
      have q2 := hP.c2
      have q3 := hP.c3
      have q4 := hP.c4
      have q5 := hP.c5
      have q6 := hP.c6
      have q7 := hP.c7
      have q8 := hP.c8
      have q9 := hP.c9
      have q10 := hP.c10
      have q11 := hP.c11
      obtain ⟨x, hx⟩ : ∃ x, Hid (P.getD j pr0 = x) := ⟨_, Lib.hid rfl⟩
      rw [hx.out] at q0 q1 q2 q3 q4 q5 q6 q7 q8 q9 q10 q11 sc hq
      clear hP
      obtain ⟨⟨x1, x2⟩, xb, xk, xkey, xv, xr, xg⟩ := x
      dsimp only at q0 q1 q2 q3 q4 q5 q6 q7 q8 q9 q10 q11 sc hq
      unfold prV atV at sc
      dsimp only at sc
      have hne := fun W' => ne_at xr (xg 0) (xg 1) (xg 2) (xg 3) (xg 4) r (g 0) (g 1) (g 2) (g 3) (g 4) W'
      rw [← hq] at hne
      clear hq
      generalize hfv : f ⟨(x1, x2), xb, xk, xkey, xv, xr, xg⟩ = fv at hne
      have hfv := Lib.hid hfv
      go_upto_region 5 with fail
      have R := heap_alloc_new wr (.cells #[.int .i64 x1, .int .i64 x2, .int .i64 xb, .int .i64 xk, .int .i64 xkey, .int .i64 xv, .int .i64 xr, .int .u64 (xg 0), .int .u64 (xg 1), .int .u64 (xg 2), .int .u64 (xg 3), .int .u64 (xg 4)] 67)
      have D3 := Lib.hid (Below.alloc hnx.out hnx.out.size (.cells #[.int .i64 x1, .int .i64 x2, .int .i64 xb, .int .i64 xk, .int .i64 xkey, .int .i64 xv, .int .i64 xr, .int .u64 (xg 0), .int .u64 (xg 1), .int .u64 (xg 2), .int .u64 (xg 3), .int .u64 (xg 4)] 67))
      have W3 := ((Below.alloc (Below.refl wr.heap.size wr) (Nat.le_refl _) (.cells #[.int .i64 x1, .int .i64 x2, .int .i64 xb, .int .i64 xk, .int .i64 xkey, .int .i64 xv, .int .i64 xr, .int .u64 (xg 0), .int .u64 (xg 1), .int .u64 (xg 2), .int .u64 (xg 3), .int .u64 (xg 4)] 67)).block bw zl).trans W
      clear z0 z1 z2 z3 z4 z5 q0 q1 q2 q3 q4 q5 q6 q7 q8 q9 q10 q11 W zl hA hbl
      generalize wr.heap.size = bx at R ⊢
      generalize wr.alloc (.cells #[.int .i64 x1, .int .i64 x2, .int .i64 xb, .int .i64 xk, .int .i64 xkey, .int .i64 xv, .int .i64 xr, .int .u64 (xg 0), .int .u64 (xg 1), .int .u64 (xg 2), .int .u64 (xg 3), .int .u64 (xg 4)] 67) = w3 at R D3 W3 ⊢
      have R := Lib.hid R
      have W3 := Lib.hid W3
      have H0 := Lib.hid (show ((w3.cell? ⟨bx, 0, none⟩ = some (.int .i64 x1) ∧ w3.cell? ⟨bx, 1, none⟩ = some (.int .i64 x2) ∧ w3.cell? ⟨bx, 2, none⟩ = some (.int .i64 xb) ∧ w3.cell? ⟨bx, 3, none⟩ = some (.int .i64 xk) ∧ w3.cell? ⟨bx, 4, none⟩ = some (.int .i64 xkey) ∧ w3.cell? ⟨bx, 5, none⟩ = some (.int .i64 xv) ∧ w3.cell? ⟨bx, 6, none⟩ = some (.int .i64 xr) ∧ w3.cell? ⟨bx, 7, none⟩ = some (.int .u64 (xg 0)) ∧ w3.cell? ⟨bx, 8, none⟩ = some (.int .u64 (xg 1)) ∧ w3.cell? ⟨bx, 9, none⟩ = some (.int .u64 (xg 2)) ∧ w3.cell? ⟨bx, 10, none⟩ = some (.int .u64 (xg 3)) ∧ w3.cell? ⟨bx, 11, none⟩ = some (.int .u64 (xg 4))) ∧ (w3.cell? ⟨bw, 0, none⟩ = some (.int .i64 r) ∧ w3.cell? ⟨bw, 1, none⟩ = some (.int .u64 (g 0)) ∧ w3.cell? ⟨bw, 2, none⟩ = some (.int .u64 (g 1)) ∧ w3.cell? ⟨bw, 3, none⟩ = some (.int .u64 (g 2)) ∧ w3.cell? ⟨bw, 4, none⟩ = some (.int .u64 (g 3)) ∧ w3.cell? ⟨bw, 5, none⟩ = some (.int .u64 (g 4)))) ∧ Below w3.heap.size w3 w3 from ⟨⟨(all12 R.out).1, (all6 W3.out).1⟩, Below.refl _ _⟩)
      go_region_held3 (fun w' => ((w'.cell? ⟨bx, 0, none⟩ = some (.int .i64 x1) ∧ w'.cell? ⟨bx, 1, none⟩ = some (.int .i64 x2) ∧ w'.cell? ⟨bx, 2, none⟩ = some (.int .i64 xb) ∧ w'.cell? ⟨bx, 3, none⟩ = some (.int .i64 xk) ∧ w'.cell? ⟨bx, 4, none⟩ = some (.int .i64 xkey) ∧ w'.cell? ⟨bx, 5, none⟩ = some (.int .i64 xv) ∧ w'.cell? ⟨bx, 6, none⟩ = some (.int .i64 xr) ∧ w'.cell? ⟨bx, 7, none⟩ = some (.int .u64 (xg 0)) ∧ w'.cell? ⟨bx, 8, none⟩ = some (.int .u64 (xg 1)) ∧ w'.cell? ⟨bx, 9, none⟩ = some (.int .u64 (xg 2)) ∧ w'.cell? ⟨bx, 10, none⟩ = some (.int .u64 (xg 3)) ∧ w'.cell? ⟨bx, 11, none⟩ = some (.int .u64 (xg 4))) ∧ (w'.cell? ⟨bw, 0, none⟩ = some (.int .i64 r) ∧ w'.cell? ⟨bw, 1, none⟩ = some (.int .u64 (g 0)) ∧ w'.cell? ⟨bw, 2, none⟩ = some (.int .u64 (g 1)) ∧ w'.cell? ⟨bw, 3, none⟩ = some (.int .u64 (g 2)) ∧ w'.cell? ⟨bw, 4, none⟩ = some (.int .u64 (g 3)) ∧ w'.cell? ⟨bw, 5, none⟩ = some (.int .u64 (g 4)))) ∧ Below w3.heap.size w3 w') (first | (with_reducible assumption) | (with_reducible exact ag_drew6 H0.out) | (with_reducible exact ag_drew6 (by assumption)) | (with_reducible exact ag_keep6 (by assumption) (by assumption)) | (with_reducible exact ag_keep6 (by assumption) (ag_drew6 (by assumption))))
        (first | (go_at_call 45; (with_reducible refine (sc _).mono ?_); rintro e w' ⟨rfl, hb⟩))
      rename_i H5
      have D4 := Lib.hid (bstep D3.out (show _ ∧ Below w3.heap.size w3 w' from H5).2)
      clear hb H5 H0 R W3 D3 sc hne
      cases fv with
      | false =>
        simp only [Bool.not_false]
        go_wp2_with fail
        go_ret
        exact ⟨by rw [all_fails hkE (by rw [hx.out]; exact hfv.out)]; rfl, bstep D1.out D4.out⟩
      | true =>
        simp only [Bool.not_true]
        go_wp2_with fail
        go_roundw
        case rel =>
          refine ⟨j + 1, by omega, by go_num, Lib.hid (fun t ht => ?_), D4⟩
          rcases Nat.lt_or_eq_of_le (Nat.le_of_lt_succ ht) with h1 | h1
          · exact hs.out t h1
          · rw [h1, hx.out]; exact hfv.out
        case measure => simp [intOf]; omega
    · obtain rfl : j = n := by omega
      go_wp2_with fail
      go_ret
      exact ⟨by rw [all_first (fun t ht => hs.out t (by rw [← hn.out]; exact ht))]; rfl, bstep D1.out hnx.out⟩

set_option maxRecDepth 100000 in
theorem iagA_nil (p : Pr) (a : Option Addr) (ca : Nat) (w : World) :
    Calls Tryd.prog 44 #[p.val, .slice a 0 ca, .func (.func 45) #[] #[]] w fun e w' => e = .returned (.bool true) ∧ Below w.heap.size w w' := by
  obtain ⟨⟨p1, p2⟩, bal, k, key, v, r, g⟩ := p
  unfold Pr.val prV
  dsimp only
  go_enter Tryd.func44, Tryd.ntmps44
  go_wp2_with fail
  refine (ioffer_any (p1, p2) bal k key v r g _).mono ?_
  rintro e w1 ⟨rfl, hb⟩
  have D0 := Lib.hid (bstep (Below.alloc (Below.refl w.heap.size w) (Nat.le_refl _) _) hb)
  clear hb
  unfold atV
  dsimp only
  go_upto_region 3 with fail
  refine wp_loop_rounds 1 ?_
  rw [rounds_succ]
  go_wp2_with fail
  go_ret
  exact ⟨rfl, Below.alloc D0.out D0.out.size _⟩

theorem iagA_any (p : Pr) (u : Value) (P : List Pr) (w : World) (hu : Prs w u P) :
    Calls Tryd.prog 44 #[p.val, u, .func (.func 45) #[] #[]] w fun e w' => e = .returned (.bool (P.all fun x => ofS x p)) ∧ Below w.heap.size w w' := by
  obtain ⟨a, cap, rfl, h1, h2, h3⟩ := hu
  rcases h3 with h3 | ⟨b, off, rfl, h4⟩
  · obtain rfl : P = [] := List.length_eq_zero_iff.1 h3
    exact iagA_nil p a cap w
  · exact iagA_at p b off cap P w h2 h4

set_option maxRecDepth 100000 in
set_option maxHeartbeats 4000000 in
theorem iagS_at (p : Pr) (b off ca : Nat) (P : List Pr) (w : World) (hm : P.length ≤ 2000000) (h : PrsAt w b off P) :
    Calls Tryd.prog 63 #[p.val, .slice (some ⟨b, off, none⟩) P.length ca, .func (.func 64) #[] #[]] w fun e w' => e = .returned (.bool (P.all fun x => sbS x p)) ∧ Below w.heap.size w w' := by
  have h := Lib.hid h
  obtain ⟨f, hf⟩ : ∃ f : Pr → Bool, f = fun x => sbS x p := ⟨_, rfl⟩
  have hfx : ∀ x, f x = sbS x p := fun x => by rw [hf]
  rw [← hf]
  clear hf
  obtain ⟨n, hn⟩ : ∃ n, Hid (P.length = n) := ⟨_, Lib.hid rfl⟩
  rw [hn.out] at hm ⊢
  obtain ⟨⟨p1, p2⟩, bal, k, key, v, r, g⟩ := p
  have hfx := Lib.hid hfx
  unfold Pr.val prV
  dsimp only
  go_enter Tryd.func63, Tryd.ntmps63
  go_wp2_with fail
  refine (iabout_any (p1, p2) bal k key v r g _).mono ?_
  rintro e w1 ⟨rfl, hb⟩
  have D0 := Lib.hid (bstep (Below.alloc (Below.refl w.heap.size w) (Nat.le_refl _) _) hb)
  clear hb
  unfold sbV
  dsimp only
  go_upto_region 3 with fail
  have A := heap_alloc_new w1 (.cells #[.int .i64 p1, .int .i64 p2, .int .i64 k, .int .i64 key, .int .i64 v] 103)
  have D1 := Lib.hid (Below.alloc D0.out D0.out.size (.cells #[.int .i64 p1, .int .i64 p2, .int .i64 k, .int .i64 key, .int .i64 v] 103))
  obtain ⟨bw, hbw⟩ : ∃ bw, w1.heap.size = bw := ⟨_, rfl⟩
  rw [hbw] at A ⊢
  generalize w1.alloc (.cells #[.int .i64 p1, .int .i64 p2, .int .i64 k, .int .i64 key, .int .i64 v] 103) = w2 at A D1 ⊢
  clear hbw D0
  have A := Lib.hid A
  go_loopw [15] (fun i wr => ∃ j : Nat, j ≤ n ∧ i = .int .i64 j ∧ Hid (∀ t, t < j → f (P.getD t pr0) = true) ∧ Hid (Below w2.heap.size w2 wr)) (fun i _ => n - (intOf i).toNat)
  case atStart => exact ⟨0, Nat.zero_le _, rfl, Lib.hid (fun t ht => absurd ht (Nat.not_lt_zero _)), Lib.hid (Below.refl _ _)⟩
  case round =>
    obtain ⟨j, hj, rfl, hs, hnx⟩ := hrel
    by_cases hlt : j < n
    · have hkE : j < P.length := by rw [hn.out]; exact hlt
      have hA := (h.out.up D1.out (Nat.le_refl _)).up hnx.out (Nat.le_refl _)
      have hbl := hA.lt
      have hP := hA.at_ j hkE
      have W := (hnx.out.block bw (lt_of_heap A.out)).trans A.out
      have sc := fun W' => iabout_any (P.getD j pr0).id (P.getD j pr0).bal (P.getD j pr0).k (P.getD j pr0).key (P.getD j pr0).v (P.getD j pr0).r (P.getD j pr0).g W'
      have hq := hfx.out (P.getD j pr0)
      unfold sbS at hq
      clear hfx
      obtain ⟨⟨z0, z1, z2, z3, z4⟩, _, zl⟩ := all5 W
      have q0 := hP.c0
      have q1 := hP.c1
      have q2 := hP.c2
      have q3 := hP.c3
      have q4 := hP.c4
      have q5 := hP.c5
      have q6 := hP.c6
      have q7 := hP.c7
      have q8 := hP.c8
      have q9 := hP.c9
      have q10 := hP.c10
      have q11 := hP.c11
      obtain ⟨x, hx⟩ : ∃ x, Hid (P.getD j pr0 = x) := ⟨_, Lib.hid rfl⟩
      rw [hx.out] at q0 q1 q2 q3 q4 q5 q6 q7 q8 q9 q10 q11 sc hq
      clear hP
      obtain ⟨⟨x1, x2⟩, xb, xk, xkey, xv, xr, xg⟩ := x
      dsimp only at q0 q1 q2 q3 q4 q5 q6 q7 q8 q9 q10 q11 sc hq
      unfold prV sbV at sc
      dsimp only at sc
      have hne := fun W' => ne_sb x1 x2 xk xkey xv p1 p2 k key v W'
      rw [← hq] at hne
      clear hq
      generalize hfv : f ⟨(x1, x2), xb, xk, xkey, xv, xr, xg⟩ = fv at hne
      have hfv := Lib.hid hfv
      go_upto_region 5 with fail
      have R := heap_alloc_new wr (.cells #[.int .i64 x1, .int .i64 x2, .int .i64 xb, .int .i64 xk, .int .i64 xkey, .int .i64 xv, .int .i64 xr, .int .u64 (xg 0), .int .u64 (xg 1), .int .u64 (xg 2), .int .u64 (xg 3), .int .u64 (xg 4)] 67)
      have D3 := Lib.hid (Below.alloc hnx.out hnx.out.size (.cells #[.int .i64 x1, .int .i64 x2, .int .i64 xb, .int .i64 xk, .int .i64 xkey, .int .i64 xv, .int .i64 xr, .int .u64 (xg 0), .int .u64 (xg 1), .int .u64 (xg 2), .int .u64 (xg 3), .int .u64 (xg 4)] 67))
      have W3 := ((Below.alloc (Below.refl wr.heap.size wr) (Nat.le_refl _) (.cells #[.int .i64 x1, .int .i64 x2, .int .i64 xb, .int .i64 xk, .int .i64 xkey, .int .i64 xv, .int .i64 xr, .int .u64 (xg 0), .int .u64 (xg 1), .int .u64 (xg 2), .int .u64 (xg 3), .int .u64 (xg 4)] 67)).block bw zl).trans W
      clear z0 z1 z2 z3 z4  q0 q1 q2 q3 q4 q5 q6 q7 q8 q9 q10 q11 W zl hA hbl
      generalize wr.heap.size = bx at R ⊢
      generalize wr.alloc (.cells #[.int .i64 x1, .int .i64 x2, .int .i64 xb, .int .i64 xk, .int .i64 xkey, .int .i64 xv, .int .i64 xr, .int .u64 (xg 0), .int .u64 (xg 1), .int .u64 (xg 2), .int .u64 (xg 3), .int .u64 (xg 4)] 67) = w3 at R D3 W3 ⊢
      have R := Lib.hid R
      have W3 := Lib.hid W3
      have H0 := Lib.hid (show ((w3.cell? ⟨bx, 0, none⟩ = some (.int .i64 x1) ∧ w3.cell? ⟨bx, 1, none⟩ = some (.int .i64 x2) ∧ w3.cell? ⟨bx, 2, none⟩ = some (.int .i64 xb) ∧ w3.cell? ⟨bx, 3, none⟩ = some (.int .i64 xk) ∧ w3.cell? ⟨bx, 4, none⟩ = some (.int .i64 xkey) ∧ w3.cell? ⟨bx, 5, none⟩ = some (.int .i64 xv) ∧ w3.cell? ⟨bx, 6, none⟩ = some (.int .i64 xr) ∧ w3.cell? ⟨bx, 7, none⟩ = some (.int .u64 (xg 0)) ∧ w3.cell? ⟨bx, 8, none⟩ = some (.int .u64 (xg 1)) ∧ w3.cell? ⟨bx, 9, none⟩ = some (.int .u64 (xg 2)) ∧ w3.cell? ⟨bx, 10, none⟩ = some (.int .u64 (xg 3)) ∧ w3.cell? ⟨bx, 11, none⟩ = some (.int .u64 (xg 4))) ∧ (w3.cell? ⟨bw, 0, none⟩ = some (.int .i64 p1) ∧ w3.cell? ⟨bw, 1, none⟩ = some (.int .i64 p2) ∧ w3.cell? ⟨bw, 2, none⟩ = some (.int .i64 k) ∧ w3.cell? ⟨bw, 3, none⟩ = some (.int .i64 key) ∧ w3.cell? ⟨bw, 4, none⟩ = some (.int .i64 v))) ∧ Below w3.heap.size w3 w3 from ⟨⟨(all12 R.out).1, (all5 W3.out).1⟩, Below.refl _ _⟩)
      go_region_held3 (fun w' => ((w'.cell? ⟨bx, 0, none⟩ = some (.int .i64 x1) ∧ w'.cell? ⟨bx, 1, none⟩ = some (.int .i64 x2) ∧ w'.cell? ⟨bx, 2, none⟩ = some (.int .i64 xb) ∧ w'.cell? ⟨bx, 3, none⟩ = some (.int .i64 xk) ∧ w'.cell? ⟨bx, 4, none⟩ = some (.int .i64 xkey) ∧ w'.cell? ⟨bx, 5, none⟩ = some (.int .i64 xv) ∧ w'.cell? ⟨bx, 6, none⟩ = some (.int .i64 xr) ∧ w'.cell? ⟨bx, 7, none⟩ = some (.int .u64 (xg 0)) ∧ w'.cell? ⟨bx, 8, none⟩ = some (.int .u64 (xg 1)) ∧ w'.cell? ⟨bx, 9, none⟩ = some (.int .u64 (xg 2)) ∧ w'.cell? ⟨bx, 10, none⟩ = some (.int .u64 (xg 3)) ∧ w'.cell? ⟨bx, 11, none⟩ = some (.int .u64 (xg 4))) ∧ (w'.cell? ⟨bw, 0, none⟩ = some (.int .i64 p1) ∧ w'.cell? ⟨bw, 1, none⟩ = some (.int .i64 p2) ∧ w'.cell? ⟨bw, 2, none⟩ = some (.int .i64 k) ∧ w'.cell? ⟨bw, 3, none⟩ = some (.int .i64 key) ∧ w'.cell? ⟨bw, 4, none⟩ = some (.int .i64 v))) ∧ Below w3.heap.size w3 w') (first | (with_reducible assumption) | (with_reducible exact ag_drew5 H0.out) | (with_reducible exact ag_drew5 (by assumption)) | (with_reducible exact ag_keep5 (by assumption) (by assumption)) | (with_reducible exact ag_keep5 (by assumption) (ag_drew5 (by assumption))))
        (first | (go_at_call 64; (with_reducible refine (sc _).mono ?_); rintro e w' ⟨rfl, hb⟩))
      rename_i H5
      have D4 := Lib.hid (bstep D3.out (show _ ∧ Below w3.heap.size w3 w' from H5).2)
      clear hb H5 H0 R W3 D3 sc hne
      cases fv with
      | false =>
        simp only [Bool.not_false]
        go_wp2_with fail
        go_ret
        exact ⟨by rw [all_fails hkE (by rw [hx.out]; exact hfv.out)]; rfl, bstep D1.out D4.out⟩
      | true =>
        simp only [Bool.not_true]
        go_wp2_with fail
        go_roundw
        case rel =>
          refine ⟨j + 1, by omega, by go_num, Lib.hid (fun t ht => ?_), D4⟩
          rcases Nat.lt_or_eq_of_le (Nat.le_of_lt_succ ht) with h1 | h1
          · exact hs.out t h1
          · rw [h1, hx.out]; exact hfv.out
        case measure => simp [intOf]; omega
    · obtain rfl : j = n := by omega
      go_wp2_with fail
      go_ret
      exact ⟨by rw [all_first (fun t ht => hs.out t (by rw [← hn.out]; exact ht))]; rfl, bstep D1.out hnx.out⟩

set_option maxRecDepth 100000 in
theorem iagS_nil (p : Pr) (a : Option Addr) (ca : Nat) (w : World) :
    Calls Tryd.prog 63 #[p.val, .slice a 0 ca, .func (.func 64) #[] #[]] w fun e w' => e = .returned (.bool true) ∧ Below w.heap.size w w' := by
  obtain ⟨⟨p1, p2⟩, bal, k, key, v, r, g⟩ := p
  unfold Pr.val prV
  dsimp only
  go_enter Tryd.func63, Tryd.ntmps63
  go_wp2_with fail
  refine (iabout_any (p1, p2) bal k key v r g _).mono ?_
  rintro e w1 ⟨rfl, hb⟩
  have D0 := Lib.hid (bstep (Below.alloc (Below.refl w.heap.size w) (Nat.le_refl _) _) hb)
  clear hb
  unfold sbV
  dsimp only
  go_upto_region 3 with fail
  refine wp_loop_rounds 1 ?_
  rw [rounds_succ]
  go_wp2_with fail
  go_ret
  exact ⟨rfl, Below.alloc D0.out D0.out.size _⟩

theorem iagS_any (p : Pr) (u : Value) (P : List Pr) (w : World) (hu : Prs w u P) :
    Calls Tryd.prog 63 #[p.val, u, .func (.func 64) #[] #[]] w fun e w' => e = .returned (.bool (P.all fun x => sbS x p)) ∧ Below w.heap.size w w' := by
  obtain ⟨a, cap, rfl, h1, h2, h3⟩ := hu
  rcases h3 with h3 | ⟨b, off, rfl, h4⟩
  · obtain rfl : P = [] := List.length_eq_zero_iff.1 h3
    exact iagS_nil p a cap w
  · exact iagS_at p b off cap P w h2 h4
end Go.Proofs.YtfcjhojkfchccaaDoor
