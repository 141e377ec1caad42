/- Texts laid together. -/
import Derived.Test.YtblkpkjgmjnimaaC11
import Derived.Test.YtblkpkjgmjnimaaC02
import Derived.Test.YtblkpkjgmjnimaaC04
import Derived.Test.YtblkpkjgmjnimaaC09
import Derived.Test.YtblkpkjgmjnimaaC13
/- The program's idSetOf at every slice. -/
namespace Go.Proofs.Ytblkpkjgmjnimaa
open Go.RowKit
set_option linter.unusedVariables false

set_option maxRecDepth 100000 in
set_option maxHeartbeats 1000000 in
theorem iset_nil (a : Option Addr) (ca : Nat) (w : World) :
    Calls Try.prog 52 #[.slice a 0 ca] w (SetPost [] w) := by
  have R0 : Set5 ((w.alloc (.cells #[.int .u64 0, .int .u64 0, .int .u64 0, .int .u64 0, .int .u64 0] 93)).alloc (.cells #[.int .u64 0, .int .u64 0, .int .u64 0, .int .u64 0, .int .u64 0] 93)) w.heap.size (fun _ => 0) := (Below.heap_alloc _ _ _ (by simp)).trans (heap_alloc_new w _)
  have R0 := Lib.hid R0
  have e1 : Hid (srtB [] = true) := Lib.hid (by decide)
  have e2 : Hid (setF [] = fun _ => 0) := Lib.hid (by rw [setF_t e1.out]; funext r; rfl)
  go_enter Try.func52, Try.ntmps52
  go_wp2_with fail
  refine wp_loop_rounds 1 ?_
  rw [rounds_succ]
  go_wp2_with fail
  exact bodyPost_ret (set_res _ _ w.heap.size _ true rfl rfl R0.out) rfl ⟨by rw [e2.out, e1.out], ((Below.refl _ _).alloc (Nat.le_refl _) _).alloc (by simp) _⟩

theorem iset_any (u : Value) (L : List Pid) (w : World) (h : Ids w u L) :
    Calls Try.prog 52 #[u] w (SetPost L w) := by
  obtain ⟨a, cap, rfl, h1, h2, h3⟩ := h
  rcases h3 with h3 | ⟨b, off, rfl, h4, h5⟩
  · obtain rfl : L = [] := List.length_eq_zero_iff.1 h3
    exact iset_nil a cap w
  · exact set_at b off cap L w h4 h2 h5
end Go.Proofs.Ytblkpkjgmjnimaa

/- The program's DepsValid. -/
namespace Go.Proofs.Ytblkpkjgmjnimaa
open Go.RowKit
set_option linter.unusedVariables false

set_option maxRecDepth 100000 in
set_option maxHeartbeats 1000000 in
theorem ival_any (u : Value) (L : List Pid) (w : World) (h : Ids w u L) :
    Calls Try.prog 49 #[u] w fun e w' => e = .returned (.bool (srtB L)) ∧ Below w.heap.size w w' := by
  have h := Lib.hid h
  go_enter Try.func49, Try.ntmps49
  go_wp2_with fail
  refine (iset_any u L _ h.out).mono ?_
  rintro e w1 ⟨rfl, hb⟩
  have D1 := Lib.hid hb
  clear hb h
  unfold setV
  go_wp2_with fail
  go_ret
  exact ⟨rfl, D1.out.alloc D1.out.size _⟩
end Go.Proofs.Ytblkpkjgmjnimaa

/- The program's valid of a node. -/
namespace Go.Proofs.Ytblkpkjgmjnimaa
open Go.RowKit
set_option linter.unusedVariables false

def ndB4 (r n s : Int) (v h : Bool) : Bool := idB r n && (decide (1 ≤ s ∧ s ≤ 99) && (v && !h))

set_option maxRecDepth 100000 in
set_option maxHeartbeats 2000000 in
theorem ndv_any (x : Nd) (u : Value) (w : World) (h : Ids w u x.deps) :
    Calls Try.prog 39 #[ndv x u] w fun e w' => e = .returned (.bool (ndB x)) ∧ Below w.heap.size w w' := by
  obtain ⟨⟨p, r⟩, s, L⟩ := x
  unfold ndv
  dsimp only at h ⊢
  have sv := ivid_any p r
  have sd := fun W (H : Ids W u L) => ival_any u L W H
  have sc := fun W (H : Ids W u L) => cont_any u L p r W H
  obtain ⟨c, hc⟩ : ∃ c, Hid (ndB ⟨(p, r), s, L⟩ = c) := ⟨_, Lib.hid rfl⟩
  rw [hc.out]
  have hc := Lib.hid (show ndB4 p r s (srtB L) (hasP L (p, r)) = c from hc.out)
  obtain ⟨q1, h1⟩ : ∃ q, idB p r = q := ⟨_, rfl⟩
  obtain ⟨q2, h2⟩ : ∃ q, srtB L = q := ⟨_, rfl⟩
  obtain ⟨q3, h3⟩ : ∃ q, hasP L (p, r) = q := ⟨_, rfl⟩
  have hc := hc.out
  unfold ndB4 at hc
  rw [h1] at sv hc
  rw [h2] at hc
  rw [h3] at hc
  rw [h2] at sd
  rw [h3] at sc
  clear h1 h2 h3
  have hI := Lib.hid (h.up ((Below.refl _ _).alloc (Nat.le_refl _) (.cells #[.int .i64 p, .int .i64 r, .int .i64 s, u] 79)) (Nat.le_refl _))
  have hD := Lib.hid ((Below.refl w.heap.size w).alloc (Nat.le_refl _) (.cells #[.int .i64 p, .int .i64 r, .int .i64 s, u] 79))
  obtain ⟨a0, a1, a2, a3⟩ := four_cells (heap_alloc_new w (.cells #[.int .i64 p, .int .i64 r, .int .i64 s, u] 79))
  clear h
  cases q1
  · obtain rfl : false = c := by simpa using hc
    clear hc sd sc hI
    go_enter Try.func39, Try.ntmps39
    go_wp2_with fail
    refine (sv _).mono ?_
    rintro e w1 ⟨rfl, B⟩
    have a0 := cell_later B a0
    have a1 := cell_later B a1
    have a2 := cell_later B a2
    have a3 := cell_later B a3
    have hD := Lib.hid (hD.out.trans (B.mono hD.out.size))
    clear B
    go_wp2_with fail
    go_ret
    exact ⟨rfl, hD.out⟩
  · by_cases hs1 : 1 ≤ s
    · by_cases hs2 : s ≤ 99
      · cases q2
        · obtain rfl : false = c := by simpa using hc
          clear hc sc
          go_enter Try.func39, Try.ntmps39
          go_wp2_with fail
          refine (sv _).mono ?_
          rintro e w1 ⟨rfl, B⟩
          have a0 := cell_later B a0
          have a1 := cell_later B a1
          have a2 := cell_later B a2
          have a3 := cell_later B a3
          have hI := Lib.hid (hI.out.up B (Nat.le_refl _))
          have hD := Lib.hid (hD.out.trans (B.mono hD.out.size))
          go_wp2_with fail
          refine (sd _ hI.out).mono ?_
          rintro e w2 ⟨rfl, B2⟩
          have a0 := cell_later B2 a0
          have a1 := cell_later B2 a1
          have a2 := cell_later B2 a2
          have a3 := cell_later B2 a3
          have hD := Lib.hid (hD.out.trans (B2.mono hD.out.size))
          clear B B2 hI sd sv
          go_wp2_with fail
          go_ret
          exact ⟨rfl, hD.out⟩
        · obtain rfl : (!q3) = c := by simpa [hs1, hs2] using hc
          clear hc
          go_enter Try.func39, Try.ntmps39
          go_wp2_with fail
          refine (sv _).mono ?_
          rintro e w1 ⟨rfl, B⟩
          have a0 := cell_later B a0
          have a1 := cell_later B a1
          have a2 := cell_later B a2
          have a3 := cell_later B a3
          have hI := Lib.hid (hI.out.up B (Nat.le_refl _))
          have hD := Lib.hid (hD.out.trans (B.mono hD.out.size))
          go_wp2_with fail
          refine (sd _ hI.out).mono ?_
          rintro e w2 ⟨rfl, B2⟩
          have a0 := cell_later B2 a0
          have a1 := cell_later B2 a1
          have a2 := cell_later B2 a2
          have a3 := cell_later B2 a3
          have hI := Lib.hid (hI.out.up B2 (Nat.le_refl _))
          have hD := Lib.hid (hD.out.trans (B2.mono hD.out.size))
          go_wp2_with fail
          refine (sc _ hI.out).mono ?_
          rintro e w3 ⟨rfl, B3⟩
          have a0 := cell_later B3 a0
          have a1 := cell_later B3 a1
          have a2 := cell_later B3 a2
          have a3 := cell_later B3 a3
          have hD := Lib.hid (hD.out.trans (B3.mono hD.out.size))
          clear B B2 B3 hI sd sv sc
          go_wp2_with fail
          go_ret
          exact ⟨rfl, hD.out⟩
      · obtain rfl : false = c := by simpa [hs2] using hc
        clear hc sd sc hI
        go_enter Try.func39, Try.ntmps39
        go_wp2_with fail
        refine (sv _).mono ?_
        rintro e w1 ⟨rfl, B⟩
        have a0 := cell_later B a0
        have a1 := cell_later B a1
        have a2 := cell_later B a2
        have a3 := cell_later B a3
        have hD := Lib.hid (hD.out.trans (B.mono hD.out.size))
        go_wp2_with fail
        go_ret
        exact ⟨rfl, hD.out⟩
    · obtain rfl : false = c := by simpa [hs1] using hc
      clear hc sd sc hI
      go_enter Try.func39, Try.ntmps39
      go_wp2_with fail
      refine (sv _).mono ?_
      rintro e w1 ⟨rfl, B⟩
      have a0 := cell_later B a0
      have a1 := cell_later B a1
      have a2 := cell_later B a2
      have a3 := cell_later B a3
      have hD := Lib.hid (hD.out.trans (B.mono hD.out.size))
      go_wp2_with fail
      go_ret
      exact ⟨rfl, hD.out⟩
end Go.Proofs.Ytblkpkjgmjnimaa

/- The program's and the model's EntryValid. -/
namespace Go.Proofs.Ytblkpkjgmjnimaa
open Go.RowKit
set_option linter.unusedVariables false

theorem nd_resN (tm : Array Value) (w : World) (b : Nat) (x y z u : Value) (t : TypeId) (h2 : tm[2]? = some (.pointer (some ⟨b, 0, none⟩))) (h : w.heap[b]? = some (.cells #[x, y, z, u] t (0, 0))) :
    (results Try.f38 tm).run Try.prog w = .ok (.agg #[x, y, z, u]) w := by
  obtain ⟨t0, t1, t2, t3⟩ := four_cells h
  simp [results, Try.results38, go_sem, h2, t0, t1, t2, t3]

set_option maxRecDepth 100000 in
theorem inode_any (e : En) (ua : Option Addr) (un uc : Nat) (w : World) :
    Calls Try.prog 38 #[env e (.slice ua un uc)] w fun x w' => x = .returned (ndv e.nd (.slice ua un uc)) ∧ Below w.heap.size w w' := by
  obtain ⟨⟨p, r⟩, bal, st, k, key, v, s, L⟩ := e
  dsimp only [env, En.nd, ndv]
  have D0 := Lib.hid (((Below.refl w.heap.size w).alloc (Nat.le_refl _) (.cells #[.int .i64 p, .int .i64 r, .int .i64 bal, .int .i64 st, .int .i64 k, .int .i64 key, .int .i64 v, .int .i64 s, .slice ua un uc] 46)).alloc (by simp) (.cells #[.int .i64 p, .int .i64 r, .int .i64 s, .slice ua un uc] 79))
  have hA := heap_alloc_at (w.alloc (.cells #[.int .i64 p, .int .i64 r, .int .i64 bal, .int .i64 st, .int .i64 k, .int .i64 key, .int .i64 v, .int .i64 s, .slice ua un uc] 46)) (.cells #[.int .i64 p, .int .i64 r, .int .i64 s, .slice ua un uc] 79) (w.heap.size + 1) (by simp)
  go_enter Try.func38, Try.ntmps38
  go_wp2_with fail
  exact bodyPost_ret (nd_resN _ _ _ _ _ _ _ _ rfl hA) rfl ⟨rfl, D0.out⟩

set_option maxRecDepth 100000 in
set_option maxHeartbeats 4000000 in
theorem ievalid_any (e : En) (u : Value) (w : World) (h : Ids w u e.deps) :
    Calls Try.prog 29 #[env e u] w fun x w' => x = .returned (.bool (enB e)) ∧ Below w.heap.size w w' := by
  obtain ⟨⟨p, r⟩, bal, st, k, key, v, s, L⟩ := e
  dsimp only at h
  obtain ⟨ua, un, uc, hu⟩ : ∃ ua un uc, u = .slice ua un uc := by obtain ⟨a, c, e, _⟩ := h; exact ⟨a, _, c, e⟩
  have sn := fun W => inode_any ⟨(p, r), bal, st, k, key, v, s, L⟩ ua un uc W
  rw [← hu] at sn
  clear hu
  have sv := fun W (H : Ids W u L) => ndv_any ⟨(p, r), s, L⟩ u W H
  have sc := fun W => ivalid_any k key v W
  have bf := fun W => ibf_any bal W
  dsimp only [env, En.nd, ndv] at sn sv ⊢
  obtain ⟨c, hc⟩ : ∃ c, enB ⟨(p, r), bal, st, k, key, v, s, L⟩ = c := ⟨_, rfl⟩
  rw [hc]
  dsimp only [enB, En.nd] at hc
  generalize ndB ⟨(p, r), s, L⟩ = q1 at sv hc
  generalize cvB k key v = q2 at sc hc
  generalize decide (0 ≤ bal ∧ bal ≤ 999) = b3 at bf hc
  have D0 := (Below.refl w.heap.size w).alloc (Nat.le_refl _) (.cells #[.int .i64 p, .int .i64 r, .int .i64 bal, .int .i64 st, .int .i64 k, .int .i64 key, .int .i64 v, .int .i64 s, u] 46)
  have hI := Lib.hid (h.up D0 (Nat.le_refl _))
  have hA := Lib.hid (heap_alloc_new w (.cells #[.int .i64 p, .int .i64 r, .int .i64 bal, .int .i64 st, .int .i64 k, .int .i64 key, .int .i64 v, .int .i64 s, u] 46))
  have D0 := Lib.hid D0
  clear h
  cases q1
  · obtain rfl : false = c := by simpa using hc
    clear hc sc bf
    go_enter Try.func29, Try.ntmps29
    go_wp2_with fail
    refine (sn _).mono ?_
    rintro e w1 ⟨rfl, B⟩
    have D1 := Lib.hid (bstep D0.out B)
    have hA := Lib.hid (bblk B (lt_of_heap hA.out) hA.out)
    have hI := Lib.hid (hI.out.up B (Nat.le_refl _))
    obtain ⟨a0, a1, a2, a3, a4, a5, a6, a7, a8⟩ := nine_cells hA.out
    have hal1 := lt_of_heap hA.out
    clear B D0
    go_wp2_with fail
    refine (sv _ hI.out).mono ?_
    rintro e w2 ⟨rfl, B⟩
    clear a0 a1 a2 a3 a4 a5 a6 a7 a8
    have D2 := Lib.hid (bstep D1.out B)
    have hA := Lib.hid (bblk B (lt_of_heap hA.out) hA.out)
    have hI := Lib.hid (hI.out.up B (Nat.le_refl _))
    obtain ⟨a0, a1, a2, a3, a4, a5, a6, a7, a8⟩ := nine_cells hA.out
    have hal2 := lt_of_heap hA.out
    clear B D1
    go_wp2_with fail
    go_ret
    exact ⟨rfl, D2.out⟩
  · cases b3
    · obtain rfl : false = c := by simpa using hc
      clear hc sc
      go_enter Try.func29, Try.ntmps29
      go_wp2_with fail
      refine (sn _).mono ?_
      rintro e w1 ⟨rfl, B⟩
      have D1 := Lib.hid (bstep D0.out B)
      have hA := Lib.hid (bblk B (lt_of_heap hA.out) hA.out)
      have hI := Lib.hid (hI.out.up B (Nat.le_refl _))
      obtain ⟨a0, a1, a2, a3, a4, a5, a6, a7, a8⟩ := nine_cells hA.out
      have hal1 := lt_of_heap hA.out
      clear B D0
      go_wp2_with fail
      refine (sv _ hI.out).mono ?_
      rintro e w2 ⟨rfl, B⟩
      clear a0 a1 a2 a3 a4 a5 a6 a7 a8
      have D2 := Lib.hid (bstep D1.out B)
      have hA := Lib.hid (bblk B (lt_of_heap hA.out) hA.out)
      have hI := Lib.hid (hI.out.up B (Nat.le_refl _))
      obtain ⟨a0, a1, a2, a3, a4, a5, a6, a7, a8⟩ := nine_cells hA.out
      have hal2 := lt_of_heap hA.out
      clear B D1
      go_wp2_with fail
      refine (bf _).mono ?_
      rintro e wb ⟨rfl, rfl⟩
      go_wp2_with fail
      go_ret
      exact ⟨rfl, D2.out⟩
    · by_cases hs1 : 1 ≤ st
      · by_cases hs2 : st ≤ 3
        · obtain rfl : q2 = c := by simpa [hs1, hs2] using hc
          clear hc
          go_enter Try.func29, Try.ntmps29
          go_wp2_with fail
          refine (sn _).mono ?_
          rintro e w1 ⟨rfl, B⟩
          have D1 := Lib.hid (bstep D0.out B)
          have hA := Lib.hid (bblk B (lt_of_heap hA.out) hA.out)
          have hI := Lib.hid (hI.out.up B (Nat.le_refl _))
          obtain ⟨a0, a1, a2, a3, a4, a5, a6, a7, a8⟩ := nine_cells hA.out
          have hal1 := lt_of_heap hA.out
          clear B D0
          go_wp2_with fail
          refine (sv _ hI.out).mono ?_
          rintro e w2 ⟨rfl, B⟩
          clear a0 a1 a2 a3 a4 a5 a6 a7 a8
          have D2 := Lib.hid (bstep D1.out B)
          have hA := Lib.hid (bblk B (lt_of_heap hA.out) hA.out)
          have hI := Lib.hid (hI.out.up B (Nat.le_refl _))
          obtain ⟨a0, a1, a2, a3, a4, a5, a6, a7, a8⟩ := nine_cells hA.out
          have hal2 := lt_of_heap hA.out
          clear B D1
          go_wp2_with fail
          refine (bf _).mono ?_
          rintro e wb ⟨rfl, rfl⟩
          go_wp2_with fail
          refine (sc _).mono ?_
          rintro e w3 ⟨rfl, B⟩
          clear a0 a1 a2 a3 a4 a5 a6 a7 a8
          have D3 := Lib.hid (bstep D2.out B)
          have hA := Lib.hid (bblk B (lt_of_heap hA.out) hA.out)
          have hI := Lib.hid (hI.out.up B (Nat.le_refl _))
          obtain ⟨a0, a1, a2, a3, a4, a5, a6, a7, a8⟩ := nine_cells hA.out
          have hal3 := lt_of_heap hA.out
          clear B D2
          go_wp2_with fail
          go_ret
          exact ⟨rfl, D3.out⟩
        · obtain rfl : false = c := by simpa [hs2] using hc
          clear hc sc
          go_enter Try.func29, Try.ntmps29
          go_wp2_with fail
          refine (sn _).mono ?_
          rintro e w1 ⟨rfl, B⟩
          have D1 := Lib.hid (bstep D0.out B)
          have hA := Lib.hid (bblk B (lt_of_heap hA.out) hA.out)
          have hI := Lib.hid (hI.out.up B (Nat.le_refl _))
          obtain ⟨a0, a1, a2, a3, a4, a5, a6, a7, a8⟩ := nine_cells hA.out
          have hal1 := lt_of_heap hA.out
          clear B D0
          go_wp2_with fail
          refine (sv _ hI.out).mono ?_
          rintro e w2 ⟨rfl, B⟩
          clear a0 a1 a2 a3 a4 a5 a6 a7 a8
          have D2 := Lib.hid (bstep D1.out B)
          have hA := Lib.hid (bblk B (lt_of_heap hA.out) hA.out)
          have hI := Lib.hid (hI.out.up B (Nat.le_refl _))
          obtain ⟨a0, a1, a2, a3, a4, a5, a6, a7, a8⟩ := nine_cells hA.out
          have hal2 := lt_of_heap hA.out
          clear B D1
          go_wp2_with fail
          refine (bf _).mono ?_
          rintro e wb ⟨rfl, rfl⟩
          go_wp2_with fail
          go_ret
          exact ⟨rfl, D2.out⟩
      · obtain rfl : false = c := by simpa [hs1] using hc
        clear hc sc
        go_enter Try.func29, Try.ntmps29
        go_wp2_with fail
        refine (sn _).mono ?_
        rintro e w1 ⟨rfl, B⟩
        have D1 := Lib.hid (bstep D0.out B)
        have hA := Lib.hid (bblk B (lt_of_heap hA.out) hA.out)
        have hI := Lib.hid (hI.out.up B (Nat.le_refl _))
        obtain ⟨a0, a1, a2, a3, a4, a5, a6, a7, a8⟩ := nine_cells hA.out
        have hal1 := lt_of_heap hA.out
        clear B D0
        go_wp2_with fail
        refine (sv _ hI.out).mono ?_
        rintro e w2 ⟨rfl, B⟩
        clear a0 a1 a2 a3 a4 a5 a6 a7 a8
        have D2 := Lib.hid (bstep D1.out B)
        have hA := Lib.hid (bblk B (lt_of_heap hA.out) hA.out)
        have hI := Lib.hid (hI.out.up B (Nat.le_refl _))
        obtain ⟨a0, a1, a2, a3, a4, a5, a6, a7, a8⟩ := nine_cells hA.out
        have hal2 := lt_of_heap hA.out
        clear B D1
        go_wp2_with fail
        refine (bf _).mono ?_
        rintro e wb ⟨rfl, rfl⟩
        go_wp2_with fail
        go_ret
        exact ⟨rfl, D2.out⟩

theorem in_of (x a b : Int) : inB x a b = decide (a ≤ x ∧ x ≤ b) := by rw [Bool.eq_iff_iff]; simp [inB]
set_option maxRecDepth 100000 in
set_option maxHeartbeats 4000000 in
theorem sentry_any (e : En) (u : Value) (w : World) (h : Ids w u e.deps) :
    Calls Try.prog 20 #[env e u] w fun x w' => x = .returned (.bool (enB e)) ∧ Below w.heap.size w w' := by
  obtain ⟨⟨p, r⟩, bal, st, k, key, v, s, L⟩ := e
  dsimp only [env] at h ⊢
  have s1 := fun W => svid_any p r W
  have i1 := fun W => in_any bal 0 999 W
  have i2 := fun W => in_any st 1 3 W
  have s2 := fun W => svalid_any k key v W
  have i3 := fun W => in_any s 1 99 W
  have s3 := fun W (H : Ids W u L) => sval_any u L W H
  have s4 := fun W (H : Ids W u L) => shas_any u L p r W H
  obtain ⟨c, hc⟩ : ∃ c, enB ⟨(p, r), bal, st, k, key, v, s, L⟩ = c := ⟨_, rfl⟩
  rw [hc]
  replace hc : (idB p r && inB bal 0 999 && inB st 1 3 && cvB k key v && inB s 1 99 && srtB L && !hasP L (p, r)) = c := by
    rw [← hc, in_of, in_of, in_of]
    dsimp only [enB, En.nd, ndB, okP]
    cases idB p r <;> cases decide (0 ≤ bal ∧ bal ≤ 999) <;> cases decide (1 ≤ st ∧ st ≤ 3) <;> cases cvB k key v <;> cases decide (1 ≤ s ∧ s ≤ 99) <;> cases srtB L <;> cases hasP L (p, r) <;> rfl
  generalize idB p r = q1 at s1 hc
  generalize inB bal 0 999 = q2 at i1 hc
  generalize inB st 1 3 = q3 at i2 hc
  generalize cvB k key v = q4 at s2 hc
  generalize inB s 1 99 = q5 at i3 hc
  generalize srtB L = q6 at s3 hc
  generalize hasP L (p, r) = q7 at s4 hc
  have D0 := (Below.refl w.heap.size w).alloc (Nat.le_refl _) (.cells #[.int .i64 p, .int .i64 r, .int .i64 bal, .int .i64 st, .int .i64 k, .int .i64 key, .int .i64 v, .int .i64 s, u] 46)
  have hI := Lib.hid (h.up D0 (Nat.le_refl _))
  have hA := Lib.hid (heap_alloc_new w (.cells #[.int .i64 p, .int .i64 r, .int .i64 bal, .int .i64 st, .int .i64 k, .int .i64 key, .int .i64 v, .int .i64 s, u] 46))
  have D0 := Lib.hid D0
  clear h
  cases q1
  · obtain rfl : false = c := by simpa using hc
    clear hc
    go_enter Try.func20, Try.ntmps20
    go_wp2_with fail
    refine (s1 _).mono ?_
    rintro e w1 ⟨rfl, B⟩
    have D1 := Lib.hid (bstep D0.out B)
    have hA := Lib.hid (bblk B (lt_of_heap hA.out) hA.out)
    have hI := Lib.hid (hI.out.up B (Nat.le_refl _))
    obtain ⟨a0, a1, a2, a3, a4, a5, a6, a7, a8⟩ := nine_cells hA.out
    have hal1 := lt_of_heap hA.out
    clear B D0
    go_wp2_with fail
    go_ret
    exact ⟨rfl, D1.out⟩
  · cases q2
    · obtain rfl : false = c := by simpa using hc
      clear hc
      go_enter Try.func20, Try.ntmps20
      go_wp2_with fail
      refine (s1 _).mono ?_
      rintro e w1 ⟨rfl, B⟩
      have D1 := Lib.hid (bstep D0.out B)
      have hA := Lib.hid (bblk B (lt_of_heap hA.out) hA.out)
      have hI := Lib.hid (hI.out.up B (Nat.le_refl _))
      obtain ⟨a0, a1, a2, a3, a4, a5, a6, a7, a8⟩ := nine_cells hA.out
      have hal1 := lt_of_heap hA.out
      clear B D0
      go_wp2_with fail
      refine (i1 _).mono ?_
      rintro e w2 ⟨rfl, rfl⟩
      go_wp2_with fail
      go_ret
      exact ⟨rfl, D1.out⟩
    · cases q3
      · obtain rfl : false = c := by simpa using hc
        clear hc
        go_enter Try.func20, Try.ntmps20
        go_wp2_with fail
        refine (s1 _).mono ?_
        rintro e w1 ⟨rfl, B⟩
        have D1 := Lib.hid (bstep D0.out B)
        have hA := Lib.hid (bblk B (lt_of_heap hA.out) hA.out)
        have hI := Lib.hid (hI.out.up B (Nat.le_refl _))
        obtain ⟨a0, a1, a2, a3, a4, a5, a6, a7, a8⟩ := nine_cells hA.out
        have hal1 := lt_of_heap hA.out
        clear B D0
        go_wp2_with fail
        refine (i1 _).mono ?_
        rintro e w2 ⟨rfl, rfl⟩
        go_wp2_with fail
        refine (i2 _).mono ?_
        rintro e w3 ⟨rfl, rfl⟩
        go_wp2_with fail
        go_ret
        exact ⟨rfl, D1.out⟩
      · cases q4
        · obtain rfl : false = c := by simpa using hc
          clear hc
          go_enter Try.func20, Try.ntmps20
          go_wp2_with fail
          refine (s1 _).mono ?_
          rintro e w1 ⟨rfl, B⟩
          have D1 := Lib.hid (bstep D0.out B)
          have hA := Lib.hid (bblk B (lt_of_heap hA.out) hA.out)
          have hI := Lib.hid (hI.out.up B (Nat.le_refl _))
          obtain ⟨a0, a1, a2, a3, a4, a5, a6, a7, a8⟩ := nine_cells hA.out
          have hal1 := lt_of_heap hA.out
          clear B D0
          go_wp2_with fail
          refine (i1 _).mono ?_
          rintro e w2 ⟨rfl, rfl⟩
          go_wp2_with fail
          refine (i2 _).mono ?_
          rintro e w3 ⟨rfl, rfl⟩
          go_wp2_with fail
          refine (s2 _).mono ?_
          rintro e w4 ⟨rfl, B⟩
          clear a0 a1 a2 a3 a4 a5 a6 a7 a8
          have D2 := Lib.hid (bstep D1.out B)
          have hA := Lib.hid (bblk B (lt_of_heap hA.out) hA.out)
          have hI := Lib.hid (hI.out.up B (Nat.le_refl _))
          obtain ⟨a0, a1, a2, a3, a4, a5, a6, a7, a8⟩ := nine_cells hA.out
          have hal2 := lt_of_heap hA.out
          clear B D1
          go_wp2_with fail
          go_ret
          exact ⟨rfl, D2.out⟩
        · cases q5
          · obtain rfl : false = c := by simpa using hc
            clear hc
            go_enter Try.func20, Try.ntmps20
            go_wp2_with fail
            refine (s1 _).mono ?_
            rintro e w1 ⟨rfl, B⟩
            have D1 := Lib.hid (bstep D0.out B)
            have hA := Lib.hid (bblk B (lt_of_heap hA.out) hA.out)
            have hI := Lib.hid (hI.out.up B (Nat.le_refl _))
            obtain ⟨a0, a1, a2, a3, a4, a5, a6, a7, a8⟩ := nine_cells hA.out
            have hal1 := lt_of_heap hA.out
            clear B D0
            go_wp2_with fail
            refine (i1 _).mono ?_
            rintro e w2 ⟨rfl, rfl⟩
            go_wp2_with fail
            refine (i2 _).mono ?_
            rintro e w3 ⟨rfl, rfl⟩
            go_wp2_with fail
            refine (s2 _).mono ?_
            rintro e w4 ⟨rfl, B⟩
            clear a0 a1 a2 a3 a4 a5 a6 a7 a8
            have D2 := Lib.hid (bstep D1.out B)
            have hA := Lib.hid (bblk B (lt_of_heap hA.out) hA.out)
            have hI := Lib.hid (hI.out.up B (Nat.le_refl _))
            obtain ⟨a0, a1, a2, a3, a4, a5, a6, a7, a8⟩ := nine_cells hA.out
            have hal2 := lt_of_heap hA.out
            clear B D1
            go_wp2_with fail
            refine (i3 _).mono ?_
            rintro e w5 ⟨rfl, rfl⟩
            go_wp2_with fail
            go_ret
            exact ⟨rfl, D2.out⟩
          · cases q6
            · obtain rfl : false = c := by simpa using hc
              clear hc
              go_enter Try.func20, Try.ntmps20
              go_wp2_with fail
              refine (s1 _).mono ?_
              rintro e w1 ⟨rfl, B⟩
              have D1 := Lib.hid (bstep D0.out B)
              have hA := Lib.hid (bblk B (lt_of_heap hA.out) hA.out)
              have hI := Lib.hid (hI.out.up B (Nat.le_refl _))
              obtain ⟨a0, a1, a2, a3, a4, a5, a6, a7, a8⟩ := nine_cells hA.out
              have hal1 := lt_of_heap hA.out
              clear B D0
              go_wp2_with fail
              refine (i1 _).mono ?_
              rintro e w2 ⟨rfl, rfl⟩
              go_wp2_with fail
              refine (i2 _).mono ?_
              rintro e w3 ⟨rfl, rfl⟩
              go_wp2_with fail
              refine (s2 _).mono ?_
              rintro e w4 ⟨rfl, B⟩
              clear a0 a1 a2 a3 a4 a5 a6 a7 a8
              have D2 := Lib.hid (bstep D1.out B)
              have hA := Lib.hid (bblk B (lt_of_heap hA.out) hA.out)
              have hI := Lib.hid (hI.out.up B (Nat.le_refl _))
              obtain ⟨a0, a1, a2, a3, a4, a5, a6, a7, a8⟩ := nine_cells hA.out
              have hal2 := lt_of_heap hA.out
              clear B D1
              go_wp2_with fail
              refine (i3 _).mono ?_
              rintro e w5 ⟨rfl, rfl⟩
              go_wp2_with fail
              refine (s3 _ hI.out).mono ?_
              rintro e w6 ⟨rfl, B⟩
              clear a0 a1 a2 a3 a4 a5 a6 a7 a8
              have D3 := Lib.hid (bstep D2.out B)
              have hA := Lib.hid (bblk B (lt_of_heap hA.out) hA.out)
              have hI := Lib.hid (hI.out.up B (Nat.le_refl _))
              obtain ⟨a0, a1, a2, a3, a4, a5, a6, a7, a8⟩ := nine_cells hA.out
              have hal3 := lt_of_heap hA.out
              clear B D2
              go_wp2_with fail
              go_ret
              exact ⟨rfl, D3.out⟩
            · obtain rfl : (!q7) = c := by simpa using hc
              clear hc
              go_enter Try.func20, Try.ntmps20
              go_wp2_with fail
              refine (s1 _).mono ?_
              rintro e w1 ⟨rfl, B⟩
              have D1 := Lib.hid (bstep D0.out B)
              have hA := Lib.hid (bblk B (lt_of_heap hA.out) hA.out)
              have hI := Lib.hid (hI.out.up B (Nat.le_refl _))
              obtain ⟨a0, a1, a2, a3, a4, a5, a6, a7, a8⟩ := nine_cells hA.out
              have hal1 := lt_of_heap hA.out
              clear B D0
              go_wp2_with fail
              refine (i1 _).mono ?_
              rintro e w2 ⟨rfl, rfl⟩
              go_wp2_with fail
              refine (i2 _).mono ?_
              rintro e w3 ⟨rfl, rfl⟩
              go_wp2_with fail
              refine (s2 _).mono ?_
              rintro e w4 ⟨rfl, B⟩
              clear a0 a1 a2 a3 a4 a5 a6 a7 a8
              have D2 := Lib.hid (bstep D1.out B)
              have hA := Lib.hid (bblk B (lt_of_heap hA.out) hA.out)
              have hI := Lib.hid (hI.out.up B (Nat.le_refl _))
              obtain ⟨a0, a1, a2, a3, a4, a5, a6, a7, a8⟩ := nine_cells hA.out
              have hal2 := lt_of_heap hA.out
              clear B D1
              go_wp2_with fail
              refine (i3 _).mono ?_
              rintro e w5 ⟨rfl, rfl⟩
              go_wp2_with fail
              refine (s3 _ hI.out).mono ?_
              rintro e w6 ⟨rfl, B⟩
              clear a0 a1 a2 a3 a4 a5 a6 a7 a8
              have D3 := Lib.hid (bstep D2.out B)
              have hA := Lib.hid (bblk B (lt_of_heap hA.out) hA.out)
              have hI := Lib.hid (hI.out.up B (Nat.le_refl _))
              obtain ⟨a0, a1, a2, a3, a4, a5, a6, a7, a8⟩ := nine_cells hA.out
              have hal3 := lt_of_heap hA.out
              clear B D2
              go_wp2_with fail
              refine (s4 _ hI.out).mono ?_
              rintro e w7 ⟨rfl, B⟩
              clear a0 a1 a2 a3 a4 a5 a6 a7 a8
              have D4 := Lib.hid (bstep D3.out B)
              have hA := Lib.hid (bblk B (lt_of_heap hA.out) hA.out)
              have hI := Lib.hid (hI.out.up B (Nat.le_refl _))
              obtain ⟨a0, a1, a2, a3, a4, a5, a6, a7, a8⟩ := nine_cells hA.out
              have hal4 := lt_of_heap hA.out
              clear B D3
              go_wp2_with fail
              go_ret
              exact ⟨rfl, D4.out⟩
end Go.Proofs.Ytblkpkjgmjnimaa
