/- Texts laid together. -/
import Derived.Test.YtbbnchodchgioaaDoorC16
/- The model's NodesReach and NodesGroup. -/
namespace Go.Proofs.YtbbnchodchgioaaDoor
open Go.RowKit
set_option linter.unusedVariables false

theorem reachR_t {N : List Nd} {a : Pid} (hv : nodB N = true) : reachR N a = selP N (Rp (EI N) a) := by unfold reachR; rw [if_pos hv]
theorem reachR_f {N : List Nd} {a : Pid} (hv : nodB N = false) : reachR N a = [] := by unfold reachR; rw [if_neg (by rw [hv]; decide)]
theorem groupR_t {N : List Nd} {a : Pid} (hv : nodB N = true) (ha : a ∈ idsN N) : groupR N a = selP N (Sc (EI N) a) := by unfold groupR; rw [if_pos ⟨hv, ha⟩]
theorem groupR_f {N : List Nd} {a : Pid} (h : ¬ (nodB N = true ∧ a ∈ idsN N)) : groupR N a = [] := by unfold groupR; rw [if_neg h]

set_option maxRecDepth 100000 in
theorem sreachM_any (u : Value) (N : List Nd) (x y : Int) (w : World) (h : Nds w u N) :
    Calls Tryd.prog 16 #[u, .agg #[.int .i64 x, .int .i64 y]] w (RchP (reachR N (x, y)) w) := by
  have D0 := (Below.refl w.heap.size w).alloc (Nat.le_refl _) (.cells #[.int .i64 x, .int .i64 y] 25)
  have sv := snval_any u N _ (h.up D0 (Nat.le_refl _))
  have hI := Lib.hid (heap_alloc_new w (.cells #[.int .i64 x, .int .i64 y] 25))
  have D0 := Lib.hid D0
  have h := Lib.hid h
  go_enter Tryd.func16, Tryd.ntmps16
  go_wp2_with fail
  refine sv.mono ?_
  rintro e w1 ⟨rfl, B⟩
  have D1 := Lib.hid (bstep D0.out B)
  have hI := Lib.hid (bblk B (by simp) hI.out)
  clear B D0 sv
  cases hv : nodB N with
  | false =>
    have hq := Lib.hid (reachR_f (a := (x, y)) hv)
    clear hv
    have hs := D1.out.size
    go_wp2_with fail
    go_ret
    exact ⟨w1.heap.size, .slice (some ⟨w1.heap.size, 0, none⟩) 0 0, hs, rfl, by rw [hq.out]; exact own_nilQ (heap_alloc_new w1 _), D1.out.alloc D1.out.size _⟩
  | true =>
    have hv := Lib.hid hv
    obtain ⟨i1, i2, _, _⟩ := blk2 hI.out
    have hil := lt_of_heap hI.out
    have sr := srch_any u N x y w1 hv.out (h.out.up D1.out (Nat.le_refl _))
    rw [← reachR_t hv.out] at sr
    have hs := D1.out.size
    go_wp2_with fail
    refine sr.mono ?_
    rintro e w2 ⟨b, v, hb, rfl, hO, B⟩
    have D2 := Lib.hid (bstep D1.out B)
    have hO := Lib.hid hO
    clear B D1 sr
    go_wp2_with fail
    go_ret
    exact ⟨b, v, by omega, rfl, hO.out, D2.out⟩

set_option maxRecDepth 100000 in
theorem sgroupM_any (u : Value) (N : List Nd) (x y : Int) (w : World) (h : Nds w u N) :
    Calls Tryd.prog 22 #[u, .agg #[.int .i64 x, .int .i64 y]] w (RchP (groupR N (x, y)) w) := by
  have D0 := (Below.refl w.heap.size w).alloc (Nat.le_refl _) (.cells #[.int .i64 x, .int .i64 y] 25)
  have sv := snval_any u N _ (h.up D0 (Nat.le_refl _))
  have hI := Lib.hid (heap_alloc_new w (.cells #[.int .i64 x, .int .i64 y] 25))
  have D0 := Lib.hid D0
  have h := Lib.hid h
  go_enter Tryd.func22, Tryd.ntmps22
  go_wp2_with fail
  refine sv.mono ?_
  rintro e w1 ⟨rfl, B⟩
  have D1 := Lib.hid (bstep D0.out B)
  have hI := Lib.hid (bblk B (by simp) hI.out)
  clear B D0 sv
  cases hv : nodB N with
  | false =>
    have hq := Lib.hid (groupR_f (N := N) (a := (x, y)) (by rw [hv]; simp))
    clear hv
    have hs := D1.out.size
    go_wp2_with fail
    go_ret
    exact ⟨w1.heap.size, .slice (some ⟨w1.heap.size, 0, none⟩) 0 0, hs, rfl, by rw [hq.out]; exact own_nilQ (heap_alloc_new w1 _), D1.out.alloc D1.out.size _⟩
  | true =>
    have hv := Lib.hid hv
    obtain ⟨i1, i2, _, _⟩ := blk2 hI.out
    have hil := lt_of_heap hI.out
    have sa := sat_any u N x y w1 (h.out.up D1.out (Nat.le_refl _))
    go_wp2_with fail
    refine sa.mono ?_
    rintro e w2 ⟨⟨z, rfl, hz⟩, B⟩
    have D2 := Lib.hid (bstep D1.out B)
    have hI := Lib.hid (bblk B hil hI.out)
    obtain ⟨i1, i2, _, _⟩ := blk2 hI.out
    have hil := lt_of_heap hI.out
    have hs := D2.out.size
    clear B D1 sa
    rcases hz with ⟨rfl, hno⟩ | ⟨k, rfl, hk, hki⟩
    · have hq := Lib.hid (groupR_f (N := N) (a := (x, y)) (fun hh => hno hh.2))
      clear hno
      go_wp2_with fail
      go_ret
      exact ⟨w2.heap.size, .slice (some ⟨w2.heap.size, 0, none⟩) 0 0, hs, rfl, by rw [hq.out]; exact own_nilQ (heap_alloc_new w2 _), D2.out.alloc D2.out.size _⟩
    · have kz : ¬ ((k : Int) < 0) := by omega
      have hin := mem_idsN.2 ⟨k, hk, hki⟩
      obtain ⟨a, cap, rfl, h1, h2, h3⟩ := h.out
      rcases h3 with h3 | ⟨b, off, rfl, h4, h5⟩
      · omega
      · obtain ⟨U, hA⟩ := NdAt.of h4 h5
        have sg := sgrp_at b off cap N U x y w2 hv.out (hA.up D2.out (Nat.le_refl _)) h1
        rw [← groupR_t hv.out hin] at sg
        clear h1 h2 h4 h5 hA hk hki hin
        go_wp2_with fail
        refine sg.mono ?_
        rintro e w3 ⟨b', v', hb', rfl, hO, B⟩
        have D3 := Lib.hid (bstep D2.out B)
        have hO := Lib.hid hO
        clear B D2 sg
        go_wp2_with fail
        go_ret
        exact ⟨b', v', by omega, rfl, hO.out, D3.out⟩
end Go.Proofs.YtbbnchodchgioaaDoor
