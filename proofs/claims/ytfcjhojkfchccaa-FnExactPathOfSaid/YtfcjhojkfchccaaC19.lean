/- Texts laid together. -/
import Derived.Test.YtfcjhojkfchccaaC01
import Derived.Deep.RegionWith
/- The laws' sizes of slices of ids. -/
namespace Go.Proofs.Ytfcjhojkfchccaa
open Go.RowKit
set_option linter.unusedVariables false

theorem szP_any (a : Option Addr) (n cap : Nat) (k : Int) (w : World) (hk : k = 1048576) (h : n ≤ 9223372036854775807) :
    Calls Try.prog 29 #[.slice a n cap, .int .i64 k] w fun e w' => e = .returned (.int .i64 (if 1048576 < n then -1 else 1048576 - n)) ∧ Below w.heap.size w w' := by
  subst hk
  by_cases hl : 1048576 < n
  · rw [if_pos hl]
    go_enter Try.func29, Try.ntmps29
    go_wp2_with fail
    go_ret
    exact ⟨rfl, Below.refl _ _⟩
  · rw [if_neg hl]
    go_enter Try.func29, Try.ntmps29
    go_wp2_with fail
    go_ret
    exact ⟨rfl, Below.refl _ _⟩

/-- .. with whatever is left. -/
theorem szP_gen (a : Option Addr) (n cap : Nat) (k : Int) (w : World) (hk : 0 ≤ k) (hk2 : k ≤ 1048576) (h : n ≤ 9223372036854775807) :
    Calls Try.prog 29 #[.slice a n cap, .int .i64 k] w fun e w' => e = .returned (.int .i64 (if k < n then -1 else k - n)) ∧ Below w.heap.size w w' := by
  by_cases hl : k < n
  · rw [if_pos hl]
    go_enter Try.func29, Try.ntmps29
    go_wp2_with fail
    go_ret
    exact ⟨rfl, Below.refl _ _⟩
  · rw [if_neg hl]
    go_enter Try.func29, Try.ntmps29
    go_wp2_with fail
    go_ret
    exact ⟨rfl, Below.refl _ _⟩
end Go.Proofs.Ytfcjhojkfchccaa

/- The laws' size of an entry. -/
namespace Go.Proofs.Ytfcjhojkfchccaa
open Go.RowKit
set_option linter.unusedVariables false

set_option maxRecDepth 100000 in
theorem szE_any (p r bal st k key v s : Int) (ua : Option Addr) (un uc : Nat) (z : Int) (w : World) (hk : 0 ≤ z) (hk2 : z ≤ 1048576) (h : un ≤ 9223372036854775807) :
    Calls Try.prog 9 #[.agg #[.int .i64 p, .int .i64 r, .int .i64 bal, .int .i64 st, .int .i64 k, .int .i64 key, .int .i64 v, .int .i64 s, .slice ua un uc], .int .i64 z] w fun e w' => e = .returned (.int .i64 (if z < un then -1 else z - un)) ∧ Below w.heap.size w w' := by
  have sz := fun w => szP_gen ua un uc z w hk hk2 h
  by_cases hl : z < un
  · rw [if_pos hl] at sz ⊢
    go_enter Try.func9, Try.ntmps9
    go_wp2_with fail
    refine (sz _).mono ?_
    rintro e w1 ⟨rfl, hb⟩
    have D1 := Lib.hid (((Below.refl w.heap.size w).alloc (Nat.le_refl _) (.cells #[.int .i64 p, .int .i64 r, .int .i64 bal, .int .i64 st, .int .i64 k, .int .i64 key, .int .i64 v, .int .i64 s, .slice ua un uc] 40)).trans (hb.mono (by simp)))
    clear hb sz
    go_wp2_with fail
    go_ret
    exact ⟨rfl, D1.out⟩
  · rw [if_neg hl] at sz ⊢
    obtain ⟨y, hz⟩ : ∃ y, z - (un : Int) = y := ⟨_, rfl⟩
    rw [hz] at sz ⊢
    have hz0 : ¬ y < 0 := by omega
    go_enter Try.func9, Try.ntmps9
    go_wp2_with fail
    refine (sz _).mono ?_
    rintro e w1 ⟨rfl, hb⟩
    have D1 := Lib.hid (((Below.refl w.heap.size w).alloc (Nat.le_refl _) (.cells #[.int .i64 p, .int .i64 r, .int .i64 bal, .int .i64 st, .int .i64 k, .int .i64 key, .int .i64 v, .int .i64 s, .slice ua un uc] 40)).trans (hb.mono (by simp)))
    clear hb sz
    go_wp2_with fail
    go_ret
    exact ⟨rfl, D1.out⟩
end Go.Proofs.Ytfcjhojkfchccaa

/- The laws' sizes of slices of entries. -/
namespace Go.Proofs.Ytfcjhojkfchccaa
open Go.RowKit
set_option linter.unusedVariables false

/-- An entry that came in: what it depends on may be long. -/
structure LE (w : World) (b o : Nat) (x : En) (ua : Option Addr) (un uc : Nat) : Prop where
  c0 : w.cell? ⟨b, o, none⟩ = some (.int .i64 x.id.1)
  c1 : w.cell? ⟨b, o + 1, none⟩ = some (.int .i64 x.id.2)
  c2 : w.cell? ⟨b, o + 2, none⟩ = some (.int .i64 x.bal)
  c3 : w.cell? ⟨b, o + 3, none⟩ = some (.int .i64 x.st)
  c4 : w.cell? ⟨b, o + 4, none⟩ = some (.int .i64 x.k)
  c5 : w.cell? ⟨b, o + 5, none⟩ = some (.int .i64 x.key)
  c6 : w.cell? ⟨b, o + 6, none⟩ = some (.int .i64 x.v)
  c7 : w.cell? ⟨b, o + 7, none⟩ = some (.int .i64 x.seq)
  c8 : w.cell? ⟨b, o + 8, none⟩ = some (.slice ua un uc)
  len : un ≤ maxLen
  ids : 1048576 < un ∨ ∃ C, Ids w (.slice ua un uc) C
/-- Entries that came in. -/
def LEs (w : World) (a : Option Addr) (len cap : Nat) : Prop := len ≤ maxLen ∧ len ≤ cap ∧ (len = 0 ∨ ∃ b off, a = some ⟨b, off, none⟩ ∧ b < w.heap.size ∧ ∀ i, i < len → ∃ x ua un uc, LE w b (off + i * 9) x ua un uc)

set_option maxRecDepth 100000 in
set_option maxHeartbeats 4000000 in
theorem szEs_at (b off ca n : Nat) (w : World) (hb : b < w.heap.size) (hm : n ≤ 9223372036854775807) (h : ∀ i, i < n → ∃ x ua un uc, LE w b (off + i * 9) x ua un uc) :
    Calls Try.prog 10 #[.slice (some ⟨b, off, none⟩) n ca, .int .i64 1048576] w fun e w' => (∃ z : Int, e = .returned (.int .i64 z) ∧ (z = -1 ∨ 0 ≤ z ∧ n ≤ 1048576 ∧ ∀ i, i < n → ∃ x u, EnAt w b (off + i * 9) x u)) ∧ Below w.heap.size w w' := by
  have h := Lib.hid h
  by_cases hl : 1048576 < n
  · go_enter Try.func10, Try.ntmps10
    go_wp2_with fail
    go_ret
    exact ⟨⟨_, rfl, .inl rfl⟩, Below.refl _ _⟩
  · go_enter Try.func10, Try.ntmps10
    go_wp2_with fail
    go_loopw [1, 5] (fun q i wr => ∃ (k : Nat) (l : Int), k ≤ n ∧ i = .int .i64 k ∧ q = .int .i64 l ∧ 0 ≤ l ∧ l ≤ 1048576 ∧ Hid (∀ i, i < k → ∃ x u, EnAt w b (off + i * 9) x u) ∧ Hid (Below w.heap.size w wr)) (fun _ i _ => n - (intOf i).toNat)
    case atStart => exact ⟨0, 1048576 - n, Nat.zero_le _, rfl, rfl, by omega, by omega, Lib.hid (fun i hi => absurd hi (Nat.not_lt_zero _)), Lib.hid (Below.refl _ _)⟩
    case round =>
      obtain ⟨k, l, hk, rfl, rfl, hl0, hl1, hd, hnx⟩ := hrel
      by_cases hlt : k < n
      · obtain ⟨x, ua, un, uc, hE⟩ := h.out k hlt
        have hcc : ∀ o, wr.cell? ⟨b, o, none⟩ = w.cell? ⟨b, o, none⟩ := fun o => hnx.out.cell (p := ⟨b, o, none⟩) hb
        have q0 := (hcc _).trans hE.c0
        have q1 := (hcc _).trans hE.c1
        have q2 := (hcc _).trans hE.c2
        have q3 := (hcc _).trans hE.c3
        have q4 := (hcc _).trans hE.c4
        have q5 := (hcc _).trans hE.c5
        have q6 := (hcc _).trans hE.c6
        have q7 := (hcc _).trans hE.c7
        have q8 := (hcc _).trans hE.c8
        have hun := hE.len
        have hbl := Nat.lt_of_lt_of_le hb hnx.out.size
        have hE := Lib.hid hE
        have sz := fun w => szE_any x.id.1 x.id.2 x.bal x.st x.k x.key x.v x.seq ua un uc l w hl0 hl1 (by simpa [maxLen] using hun)
        clear hcc
        by_cases hlu : l < un
        · rw [if_pos hlu] at sz
          clear hd h hE
          go_wp2_with fail
          refine (sz _).mono ?_
          rintro e w1 ⟨rfl, B⟩
          have D := Lib.hid (bstep hnx.out B)
          clear B sz q0 q1 q2 q3 q4 q5 q6 q7 q8
          go_wp2_with fail
          go_ret
          exact ⟨⟨_, rfl, .inl rfl⟩, D.out⟩
        · rw [if_neg hlu] at sz
          obtain ⟨y, hy⟩ : ∃ y, l - (un : Int) = y := ⟨_, rfl⟩
          have hy0 : ¬ y < 0 := by omega
          have hy1 : y ≤ 1048576 := by omega
          rw [hy] at sz
          have hd1 := Lib.hid (up_to hd.out (show ∃ x u, EnAt w b (off + k * 9) x u from by
            obtain ⟨C, hC⟩ := hE.out.ids.resolve_left (by omega)
            have g := hE.out
            exact ⟨{ x with deps := C }, .slice ua un uc, g.c0, g.c1, g.c2, g.c3, g.c4, g.c5, g.c6, g.c7, g.c8, hC⟩))
          clear hd hE hy hlu
          go_wp2_with fail
          refine (sz _).mono ?_
          rintro e w1 ⟨rfl, B⟩
          have D := Lib.hid (bstep hnx.out B)
          clear B sz q0 q1 q2 q3 q4 q5 q6 q7 q8
          go_wp2_with fail
          refine ⟨⟨k + 1, y, by omega, by go_num, rfl, by omega, hy1, hd1, D⟩, ?_⟩
          simp [intOf]; omega
      · obtain rfl : k = n := by omega
        go_wp2_with fail
        go_ret
        exact ⟨⟨_, rfl, .inr ⟨hl0, by omega, hd.out⟩⟩, hnx.out⟩

theorem szEs_nil (a : Option Addr) (ca : Nat) (w : World) :
    Calls Try.prog 10 #[.slice a 0 ca, .int .i64 1048576] w fun e w' => e = .returned (.int .i64 1048576) ∧ Below w.heap.size w w' := by
  go_enter Try.func10, Try.ntmps10
  go_wp2_with fail
  refine wp_loop_rounds 1 ?_
  rw [rounds_succ]
  go_wp2_with fail
  go_ret
  exact ⟨rfl, Below.refl _ _⟩

theorem ens_of {w : World} {b off n cap : Nat} (hb : b < w.heap.size) (hc : n ≤ cap) (hl : n ≤ 2000000) (h : ∀ i, i < n → ∃ x u, EnAt w b (off + i * 9) x u) : ∃ E : List En, E.length = n ∧ Ens w (.slice (some ⟨b, off, none⟩) n cap) E := by
  have h' : ∀ i, ∃ xu : En × Value, i < n → EnAt w b (off + i * 9) xu.1 xu.2 := fun i => by
    by_cases hi : i < n
    · obtain ⟨x, u, he⟩ := h i hi; exact ⟨(x, u), fun _ => he⟩
    · exact ⟨(en0, .slice none 0 0), fun hh => absurd hh hi⟩
  let f := fun i => Classical.choose (h' i)
  have hf : ∀ i, i < n → EnAt w b (off + i * 9) (f i).1 (f i).2 := fun i hi => Classical.choose_spec (h' i) hi
  have hlen : ((List.range n).map fun i => (f i).1).length = n := by simp
  refine ⟨(List.range n).map fun i => (f i).1, hlen, some ⟨b, off, none⟩, cap, by rw [hlen], by rw [hlen]; exact hc, by rw [hlen]; exact hl, .inr ⟨b, off, fun i => (f i).2, rfl, hb, fun i hi => ?_⟩⟩
  rw [hlen] at hi
  have e : ((List.range n).map fun i => (f i).1).getD i en0 = (f i).1 := by
    rw [List.getD_eq_getElem?_getD, List.getElem?_map, List.getElem?_range hi]; rfl
  rw [e]
  exact hf i hi

/-- WHAT szEntryS ANSWERS: where it is not below 0, the entries can be read. -/
theorem szEs_any (a : Option Addr) (len cap : Nat) (w : World) (h : LEs w a len cap) :
    Calls Try.prog 10 #[.slice a len cap, .int .i64 1048576] w fun e w' => (∃ z : Int, e = .returned (.int .i64 z) ∧ (z = -1 ∨ 0 ≤ z ∧ ∃ E : List En, E.length = len ∧ Ens w (.slice a len cap) E)) ∧ Below w.heap.size w w' := by
  obtain ⟨h1, h2, h3⟩ := h
  rcases h3 with rfl | ⟨b, off, rfl, hb, hc⟩
  · refine (szEs_nil a cap w).mono ?_
    rintro e w' ⟨rfl, B⟩
    exact ⟨⟨_, rfl, .inr ⟨by omega, [], rfl, a, cap, rfl, Nat.zero_le _, Nat.zero_le _, .inl rfl⟩⟩, B⟩
  · refine (szEs_at b off cap len w hb (by simpa [maxLen] using h1) hc).mono ?_
    rintro e w' ⟨⟨z, rfl, hz⟩, B⟩
    refine ⟨⟨z, rfl, ?_⟩, B⟩
    rcases hz with hz | ⟨hz, hl, hE⟩
    · exact .inl hz
    · exact .inr ⟨hz, ens_of hb h2 (by omega) hE⟩
end Go.Proofs.Ytfcjhojkfchccaa

/- The laws' sizes of slices of entries, out of any rest. -/
namespace Go.Proofs.Ytfcjhojkfchccaa
open Go.RowKit
set_option linter.unusedVariables false

set_option maxRecDepth 100000 in
set_option maxHeartbeats 4000000 in
theorem szEc_at (b off ca n : Nat) (z0 : Int) (hz0 : 0 ≤ z0) (hz1 : z0 ≤ 1048576) (w : World) (hb : b < w.heap.size) (hm : n ≤ 9223372036854775807) (h : ∀ i, i < n → ∃ x ua un uc, LE w b (off + i * 9) x ua un uc) :
    Calls Try.prog 10 #[.slice (some ⟨b, off, none⟩) n ca, .int .i64 z0] w fun e w' => (∃ z : Int, e = .returned (.int .i64 z) ∧ (z = -1 ∨ 0 ≤ z ∧ z ≤ 1048576 ∧ n ≤ 1048576 ∧ ∀ i, i < n → ∃ x u, EnAt w b (off + i * 9) x u)) ∧ Below w.heap.size w w' := by
  have h := Lib.hid h
  by_cases hl : z0 < (n : Int)
  · go_enter Try.func10, Try.ntmps10
    go_wp2_with fail
    go_ret
    exact ⟨⟨_, rfl, .inl rfl⟩, Below.refl _ _⟩
  · go_enter Try.func10, Try.ntmps10
    go_wp2_with fail
    go_loopw [1, 5] (fun q i wr => ∃ (k : Nat) (l : Int), k ≤ n ∧ i = .int .i64 k ∧ q = .int .i64 l ∧ 0 ≤ l ∧ l ≤ 1048576 ∧ Hid (∀ i, i < k → ∃ x u, EnAt w b (off + i * 9) x u) ∧ Hid (Below w.heap.size w wr)) (fun _ i _ => n - (intOf i).toNat)
    case atStart => exact ⟨0, z0 - n, Nat.zero_le _, rfl, rfl, by omega, by omega, Lib.hid (fun i hi => absurd hi (Nat.not_lt_zero _)), Lib.hid (Below.refl _ _)⟩
    case round =>
      obtain ⟨k, l, hk, rfl, rfl, hl0, hl1, hd, hnx⟩ := hrel
      by_cases hlt : k < n
      · obtain ⟨x, ua, un, uc, hE⟩ := h.out k hlt
        have hcc : ∀ o, wr.cell? ⟨b, o, none⟩ = w.cell? ⟨b, o, none⟩ := fun o => hnx.out.cell (p := ⟨b, o, none⟩) hb
        have q0 := (hcc _).trans hE.c0
        have q1 := (hcc _).trans hE.c1
        have q2 := (hcc _).trans hE.c2
        have q3 := (hcc _).trans hE.c3
        have q4 := (hcc _).trans hE.c4
        have q5 := (hcc _).trans hE.c5
        have q6 := (hcc _).trans hE.c6
        have q7 := (hcc _).trans hE.c7
        have q8 := (hcc _).trans hE.c8
        have hun := hE.len
        have hbl := Nat.lt_of_lt_of_le hb hnx.out.size
        have hE := Lib.hid hE
        have sz := fun w => szE_any x.id.1 x.id.2 x.bal x.st x.k x.key x.v x.seq ua un uc l w hl0 hl1 (by simpa [maxLen] using hun)
        clear hcc
        by_cases hlu : l < un
        · rw [if_pos hlu] at sz
          clear hd h hE
          go_wp2_with fail
          refine (sz _).mono ?_
          rintro e w1 ⟨rfl, B⟩
          have D := Lib.hid (bstep hnx.out B)
          clear B sz q0 q1 q2 q3 q4 q5 q6 q7 q8
          go_wp2_with fail
          go_ret
          exact ⟨⟨_, rfl, .inl rfl⟩, D.out⟩
        · rw [if_neg hlu] at sz
          obtain ⟨y, hy⟩ : ∃ y, l - (un : Int) = y := ⟨_, rfl⟩
          have hy0 : ¬ y < 0 := by omega
          have hy1 : y ≤ 1048576 := by omega
          rw [hy] at sz
          have hd1 := Lib.hid (up_to hd.out (show ∃ x u, EnAt w b (off + k * 9) x u from by
            obtain ⟨C, hC⟩ := hE.out.ids.resolve_left (by omega)
            have g := hE.out
            exact ⟨{ x with deps := C }, .slice ua un uc, g.c0, g.c1, g.c2, g.c3, g.c4, g.c5, g.c6, g.c7, g.c8, hC⟩))
          clear hd hE hy hlu
          go_wp2_with fail
          refine (sz _).mono ?_
          rintro e w1 ⟨rfl, B⟩
          have D := Lib.hid (bstep hnx.out B)
          clear B sz q0 q1 q2 q3 q4 q5 q6 q7 q8
          go_wp2_with fail
          refine ⟨⟨k + 1, y, by omega, by go_num, rfl, by omega, hy1, hd1, D⟩, ?_⟩
          simp [intOf]; omega
      · obtain rfl : k = n := by omega
        go_wp2_with fail
        go_ret
        exact ⟨⟨_, rfl, .inr ⟨hl0, hl1, by omega, hd.out⟩⟩, hnx.out⟩

theorem szEc_nil (a : Option Addr) (ca : Nat) (z0 : Int) (hz0 : 0 ≤ z0) (hz1 : z0 ≤ 1048576) (w : World) :
    Calls Try.prog 10 #[.slice a 0 ca, .int .i64 z0] w fun e w' => e = .returned (.int .i64 z0) ∧ Below w.heap.size w w' := by
  go_enter Try.func10, Try.ntmps10
  go_wp2_with fail
  refine wp_loop_rounds 1 ?_
  rw [rounds_succ]
  go_wp2_with fail
  go_ret
  exact ⟨rfl, Below.refl _ _⟩
/-- WHAT szEntryS ANSWERS: where it is not below 0, the entries can be read. -/
theorem szEc_any (a : Option Addr) (len cap : Nat) (z0 : Int) (hz0 : 0 ≤ z0) (hz1 : z0 ≤ 1048576) (w : World) (h : LEs w a len cap) :
    Calls Try.prog 10 #[.slice a len cap, .int .i64 z0] w fun e w' => (∃ z : Int, e = .returned (.int .i64 z) ∧ (z = -1 ∨ 0 ≤ z ∧ z ≤ 1048576 ∧ ∃ E : List En, E.length = len ∧ Ens w (.slice a len cap) E)) ∧ Below w.heap.size w w' := by
  obtain ⟨h1, h2, h3⟩ := h
  rcases h3 with rfl | ⟨b, off, rfl, hb, hc⟩
  · refine (szEc_nil a cap z0 hz0 hz1 w).mono ?_
    rintro e w' ⟨rfl, B⟩
    exact ⟨⟨_, rfl, .inr ⟨by omega, by omega, [], rfl, a, cap, rfl, Nat.zero_le _, Nat.zero_le _, .inl rfl⟩⟩, B⟩
  · refine (szEc_at b off cap len z0 hz0 hz1 w hb (by simpa [maxLen] using h1) hc).mono ?_
    rintro e w' ⟨⟨z, rfl, hz⟩, B⟩
    refine ⟨⟨z, rfl, ?_⟩, B⟩
    rcases hz with hz | ⟨hz, hz2, hl, hE⟩
    · exact .inl hz
    · exact .inr ⟨hz, hz2, ens_of hb h2 (by omega) hE⟩
end Go.Proofs.Ytfcjhojkfchccaa

/- The laws' copies of ids. -/
namespace Go.Proofs.Ytfcjhojkfchccaa
open Go.RowKit
set_option linter.unusedVariables false

theorem toId_any (r n : Int) (w : World) :
    Calls Try.prog 30 #[.agg #[.int .i64 r, .int .i64 n]] w fun e w' => e = .returned (.agg #[.int .i64 r, .int .i64 n]) ∧ Below w.heap.size w w' := by
  go_enter Try.func30, Try.ntmps30
  go_wp2_with fail
  exact bodyPost_ret (v := .agg #[.int .i64 r, .int .i64 n]) (by simp [results, Try.results30, go_sem]) rfl ⟨rfl, by repeat (first | with_reducible exact Below.refl _ _ | with_reducible refine Below.setCell ?_ (by first | (simp; done) | (simp; omega)) _ | with_reducible refine Below.alloc ?_ (by first | (simp; done) | (simp; omega)) _)⟩

end Go.Proofs.Ytfcjhojkfchccaa
