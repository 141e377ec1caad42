/- The laws' sizes of slices of nodes. -/
import Derived.Test.YtbklkhndjckckaaNdm
import Derived.Test.YtbklkhndjckckaaIdz
import Derived.Deep.RegionWith
namespace Go.Proofs.Ytbklkhndjckckaa
open Go.RowKit
set_option linter.unusedVariables false

/-- A node that came in: what it depends on may be long. -/
def LN (w : World) (b o : Nat) : Prop := ∃ (p r s : Int) (ua : Option Addr) (un uc : Nat), w.cell? ⟨b, o, none⟩ = some (.int .i64 p) ∧ w.cell? ⟨b, o + 1, none⟩ = some (.int .i64 r) ∧ w.cell? ⟨b, o + 2, none⟩ = some (.int .i64 s) ∧ w.cell? ⟨b, o + 3, none⟩ = some (.slice ua un uc) ∧ un ≤ maxLen ∧ (1048576 < un ∨ ∃ C, Ids w (.slice ua un uc) C)
/-- Nodes that came in. -/
def LNs (w : World) (a : Option Addr) (len cap : Nat) : Prop := len ≤ maxLen ∧ len ≤ cap ∧ (len = 0 ∨ ∃ b off, a = some ⟨b, off, none⟩ ∧ b < w.heap.size ∧ ∀ i, i < len → LN w b (off + i * 4))

set_option maxRecDepth 100000 in
theorem szN_any (p r s : Int) (ua : Option Addr) (un uc : Nat) (k : Int) (w : World) (hk : 0 ≤ k) (hk2 : k ≤ 1048576) (h : un ≤ 9223372036854775807) :
    Calls Try.prog 50 #[.agg #[.int .i64 p, .int .i64 r, .int .i64 s, .slice ua un uc], .int .i64 k] w fun e w' => e = .returned (.int .i64 (if k < un then -1 else k - un)) ∧ Below w.heap.size w w' := by
  have sz := fun w => szP_gen ua un uc k w hk hk2 h
  by_cases hl : k < un
  · rw [if_pos hl] at sz ⊢
    go_enter Try.func50, Try.ntmps50
    go_wp2_with fail
    refine (sz _).mono ?_
    rintro e w1 ⟨rfl, hb⟩
    have D1 := Lib.hid (((Below.refl w.heap.size w).alloc (Nat.le_refl _) (.cells #[.int .i64 p, .int .i64 r, .int .i64 s, .slice ua un uc] 78)).trans (hb.mono (by simp)))
    clear hb sz
    go_wp2_with fail
    go_ret
    exact ⟨rfl, D1.out⟩
  · rw [if_neg hl] at sz ⊢
    obtain ⟨z, hz⟩ : ∃ z, k - (un : Int) = z := ⟨_, rfl⟩
    rw [hz] at sz ⊢
    have hz0 : ¬ z < 0 := by omega
    go_enter Try.func50, Try.ntmps50
    go_wp2_with fail
    refine (sz _).mono ?_
    rintro e w1 ⟨rfl, hb⟩
    have D1 := Lib.hid (((Below.refl w.heap.size w).alloc (Nat.le_refl _) (.cells #[.int .i64 p, .int .i64 r, .int .i64 s, .slice ua un uc] 78)).trans (hb.mono (by simp)))
    clear hb sz
    go_wp2_with fail
    go_ret
    exact ⟨rfl, D1.out⟩

set_option maxRecDepth 100000 in
set_option maxHeartbeats 2000000 in
theorem szNs_at (b off ca n : Nat) (w : World) (hb : b < w.heap.size) (hm : n ≤ 9223372036854775807) (h : ∀ i, i < n → LN w b (off + i * 4)) :
    Calls Try.prog 21 #[.slice (some ⟨b, off, none⟩) n ca, .int .i64 1048576] w fun e w' => (∃ z : Int, e = .returned (.int .i64 z) ∧ (z = -1 ∨ 0 ≤ z ∧ n ≤ 1048576 ∧ ∀ i, i < n → ∃ x, NdIn w b (off + i * 4) x)) ∧ Below w.heap.size w w' := by
  have h := Lib.hid h
  by_cases hl : 1048576 < n
  · go_enter Try.func21, Try.ntmps21
    go_wp2_with fail
    go_ret
    exact ⟨⟨_, rfl, .inl rfl⟩, Below.refl _ _⟩
  · go_enter Try.func21, Try.ntmps21
    go_wp2_with fail
    go_loopw [1, 5] (fun q i wr => ∃ (k : Nat) (l : Int), k ≤ n ∧ i = .int .i64 k ∧ q = .int .i64 l ∧ 0 ≤ l ∧ l ≤ 1048576 ∧ Hid (∀ i, i < k → ∃ x, NdIn w b (off + i * 4) x) ∧ Below w.heap.size w wr) (fun _ i _ => n - (intOf i).toNat)
    case atStart => exact ⟨0, 1048576 - n, Nat.zero_le _, rfl, rfl, by omega, by omega, Lib.hid (fun i hi => absurd hi (Nat.not_lt_zero _)), Below.refl _ _⟩
    case round =>
      obtain ⟨k, l, hk, rfl, rfl, hl0, hl1, hd, hnx⟩ := hrel
      by_cases hlt : k < n
      · obtain ⟨p, r, s, ua, un, uc, c0, c1, c2, c3, hun, hC⟩ := h.out k hlt
        have q0 := (hnx.cell (p := ⟨b, off + k * 4, none⟩) hb).trans c0
        have q1 := (hnx.cell (p := ⟨b, off + k * 4 + 1, none⟩) hb).trans c1
        have q2 := (hnx.cell (p := ⟨b, off + k * 4 + 2, none⟩) hb).trans c2
        have q3 := (hnx.cell (p := ⟨b, off + k * 4 + 3, none⟩) hb).trans c3
        have sz := fun w => szN_any p r s ua un uc l w hl0 hl1 (by simpa [maxLen] using hun)
        have hnx := Lib.hid hnx
        by_cases hlu : l < un
        · rw [if_pos hlu] at sz
          clear hC hd h c0 c1 c2 c3
          go_wp2_with fail
          refine (sz _).mono ?_
          rintro e w1 ⟨rfl, hb1⟩
          have D1 := Lib.hid (hnx.out.trans (hb1.mono hnx.out.size))
          clear hb1 sz hnx
          go_wp2_with fail
          go_ret
          exact ⟨⟨_, rfl, .inl rfl⟩, D1.out⟩
        · rw [if_neg hlu] at sz
          have hd := Lib.hid (up_to hd.out (by
            obtain ⟨C, hC⟩ := hC.resolve_left (by omega)
            exact ⟨⟨(p, r), s, C⟩, ua, un, uc, c0, c1, c2, c3, hC⟩))
          obtain ⟨z, hz⟩ : ∃ z, l - (un : Int) = z := ⟨_, rfl⟩
          rw [hz] at sz
          have hz0 : ¬ z < 0 := by omega
          have hz1 : z ≤ 1048576 := by omega
          clear hC c0 c1 c2 c3 h
          go_wp2_with fail
          refine (sz _).mono ?_
          rintro e w1 ⟨rfl, hb1⟩
          have D1 := Lib.hid (hnx.out.trans (hb1.mono hnx.out.size))
          clear hb1 sz hnx
          go_wp2_with fail
          go_roundw
          case rel => exact ⟨k + 1, z, by omega, by go_num, rfl, by omega, hz1, hd, D1.out⟩
          case measure => simp [intOf]; omega
      · obtain rfl : k = n := by omega
        have hnx := Lib.hid hnx
        clear h
        go_wp2_with fail
        go_ret
        exact ⟨⟨_, rfl, .inr ⟨hl0, by omega, hd.out⟩⟩, hnx.out⟩

set_option maxRecDepth 100000 in
theorem szNs_nil (a : Option Addr) (ca : Nat) (w : World) :
    Calls Try.prog 21 #[.slice a 0 ca, .int .i64 1048576] w fun e w' => e = .returned (.int .i64 1048576) ∧ Below w.heap.size w w' := by
  go_enter Try.func21, Try.ntmps21
  go_wp2_with fail
  refine wp_loop_rounds 1 ?_
  rw [rounds_succ]
  go_wp2_with fail
  go_ret
  exact ⟨rfl, Below.refl _ _⟩

theorem nds_of {w : World} {b off n ca : Nat} (hca : n ≤ ca) (hb : b < w.heap.size) (hn : n ≤ 2000000) (h : ∀ i, i < n → ∃ x, NdIn w b (off + i * 4) x) : ∃ N : List Nd, N.length = n ∧ Nds w (.slice (some ⟨b, off, none⟩) n ca) N := by
  haveI : Inhabited Nd := ⟨nd0⟩
  have hf : ∃ f : Nat → Nd, ∀ i, i < n → NdIn w b (off + i * 4) (f i) := by
    refine ⟨fun i => if hi : i < n then (h i hi).choose else nd0, fun i hi => ?_⟩
    show NdIn w b (off + i * 4) (if hi : i < n then (h i hi).choose else nd0)
    rw [dif_pos hi]; exact (h i hi).choose_spec
  obtain ⟨f, hf⟩ := hf
  have hl : ((List.range n).map f).length = n := by simp
  refine ⟨(List.range n).map f, hl, some ⟨b, off, none⟩, ca, by rw [hl], by omega, by omega, .inr ⟨b, off, rfl, hb, fun i hi => ?_⟩⟩
  rw [hl] at hi
  have hg : ((List.range n).map f).getD i nd0 = f i := by
    rw [List.getD_eq_getElem?_getD, List.getElem?_map, List.getElem?_range hi]; rfl
  rw [hg]; exact hf i hi

theorem szNs_any (a : Option Addr) (len cap : Nat) (w : World) (h : LNs w a len cap) :
    Calls Try.prog 21 #[.slice a len cap, .int .i64 1048576] w fun e w' => (∃ z : Int, e = .returned (.int .i64 z) ∧ (z = -1 ∨ 0 ≤ z ∧ ∃ N, N.length ≤ 1048576 ∧ Nds w (.slice a len cap) N)) ∧ Below w.heap.size w w' := by
  obtain ⟨hm, hca, h⟩ := h
  rcases h with rfl | ⟨b, off, rfl, hb, h⟩
  · refine (szNs_nil a cap w).mono ?_
    rintro e w1 ⟨rfl, hb⟩
    exact ⟨⟨_, rfl, .inr ⟨by omega, [], Nat.zero_le _, a, cap, rfl, Nat.zero_le _, Nat.zero_le _, .inl rfl⟩⟩, hb⟩
  · refine (szNs_at b off cap len w hb (by simpa [maxLen] using hm) h).mono ?_
    rintro e w1 ⟨⟨z, rfl, hz⟩, hb1⟩
    refine ⟨⟨z, rfl, hz.imp id fun ⟨h0, h1, h2⟩ => ?_⟩, hb1⟩
    obtain ⟨N, hN, hh⟩ := nds_of (ca := cap) hca hb (by omega) h2
    exact ⟨h0, N, by omega, hh⟩
end Go.Proofs.Ytbklkhndjckckaa
