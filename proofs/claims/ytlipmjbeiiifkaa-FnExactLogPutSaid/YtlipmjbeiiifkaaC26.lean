/- Texts laid together. -/
import Derived.Test.YtlipmjbeiiifkaaC01
import Derived.Test.YtlipmjbeiiifkaaC12
import Derived.Deep.RegionWith
import Derived.Test.YtlipmjbeiiifkaaC19
/- The laws' size of an entry. -/
namespace Go.Proofs.Ytlipmjbeiiifkaa
open Go.RowKit
set_option linter.unusedVariables false

set_option maxRecDepth 100000 in
theorem szE_any (p r bal st k key v s : Int) (ua : Option Addr) (un uc : Nat) (z : Int) (w : World) (hk : 0 ≤ z) (hk2 : z ≤ 1048576) (h : un ≤ 9223372036854775807) :
    Calls Try.prog 14 #[.agg #[.int .i64 p, .int .i64 r, .int .i64 bal, .int .i64 st, .int .i64 k, .int .i64 key, .int .i64 v, .int .i64 s, .slice ua un uc], .int .i64 z] w fun e w' => e = .returned (.int .i64 (if z < un then -1 else z - un)) ∧ Below w.heap.size w w' := by
  have sz := fun w => szP_gen ua un uc z w hk hk2 h
  by_cases hl : z < un
  · rw [if_pos hl] at sz ⊢
    go_enter Try.func14, Try.ntmps14
    go_wp2_with fail
    refine (sz _).mono ?_
    rintro e w1 ⟨rfl, hb⟩
    have D1 := Lib.hid (((Below.refl w.heap.size w).alloc (Nat.le_refl _) (.cells #[.int .i64 p, .int .i64 r, .int .i64 bal, .int .i64 st, .int .i64 k, .int .i64 key, .int .i64 v, .int .i64 s, .slice ua un uc] 46)).trans (hb.mono (by simp)))
    clear hb sz
    go_wp2_with fail
    go_ret
    exact ⟨rfl, D1.out⟩
  · rw [if_neg hl] at sz ⊢
    obtain ⟨y, hz⟩ : ∃ y, z - (un : Int) = y := ⟨_, rfl⟩
    rw [hz] at sz ⊢
    have hz0 : ¬ y < 0 := by omega
    go_enter Try.func14, Try.ntmps14
    go_wp2_with fail
    refine (sz _).mono ?_
    rintro e w1 ⟨rfl, hb⟩
    have D1 := Lib.hid (((Below.refl w.heap.size w).alloc (Nat.le_refl _) (.cells #[.int .i64 p, .int .i64 r, .int .i64 bal, .int .i64 st, .int .i64 k, .int .i64 key, .int .i64 v, .int .i64 s, .slice ua un uc] 46)).trans (hb.mono (by simp)))
    clear hb sz
    go_wp2_with fail
    go_ret
    exact ⟨rfl, D1.out⟩
end Go.Proofs.Ytlipmjbeiiifkaa

/- The laws' sizes of slices of entries. -/
namespace Go.Proofs.Ytlipmjbeiiifkaa
open Go.RowKit
set_option linter.unusedVariables false

/-- An entry that came in: what it depends on may be long. -/
structure LE (w : World) (b o : Nat) (x : En) (ua : Option Addr) (un uc : Nat) : Prop where
  c0 : w.cell? ⟨b, o, none⟩ = some (.int .i64 x.id.1)
  c1 : w.cell? ⟨b, o + 1, none⟩ = some (.int .i64 x.id.2)
  c2 : w.cell? ⟨b, o + 2, none⟩ = some (.int .i64 x.bal)
  c3 : w.cell? ⟨b, o + 3, none⟩ = some (.int .i64 x.st)
  c4 : w.cell? ⟨b, o + 4, none⟩ = some (.int .i64 x.k)
  c5 : w.cell? ⟨b, o + 5, none⟩ = some (.int .i64 x.key)
  c6 : w.cell? ⟨b, o + 6, none⟩ = some (.int .i64 x.v)
  c7 : w.cell? ⟨b, o + 7, none⟩ = some (.int .i64 x.seq)
  c8 : w.cell? ⟨b, o + 8, none⟩ = some (.slice ua un uc)
  len : un ≤ maxLen
  ids : 1048576 < un ∨ ∃ C, Ids w (.slice ua un uc) C
/-- Entries that came in. -/
def LEs (w : World) (a : Option Addr) (len cap : Nat) : Prop := len ≤ maxLen ∧ len ≤ cap ∧ (len = 0 ∨ ∃ b off, a = some ⟨b, off, none⟩ ∧ b < w.heap.size ∧ ∀ i, i < len → ∃ x ua un uc, LE w b (off + i * 9) x ua un uc)

set_option maxRecDepth 100000 in
set_option maxHeartbeats 4000000 in
theorem szEs_at (b off ca n : Nat) (w : World) (hb : b < w.heap.size) (hm : n ≤ 9223372036854775807) (h : ∀ i, i < n → ∃ x ua un uc, LE w b (off + i * 9) x ua un uc) :
    Calls Try.prog 13 #[.slice (some ⟨b, off, none⟩) n ca, .int .i64 1048576] w fun e w' => (∃ z : Int, e = .returned (.int .i64 z) ∧ (z = -1 ∨ 0 ≤ z ∧ n ≤ 1048576 ∧ ∀ i, i < n → ∃ x u, EnAt w b (off + i * 9) x u)) ∧ Below w.heap.size w w' := by
  have h := Lib.hid h
  by_cases hl : 1048576 < n
  · go_enter Try.func13, Try.ntmps13
    go_wp2_with fail
    go_ret
    exact ⟨⟨_, rfl, .inl rfl⟩, Below.refl _ _⟩
  · go_enter Try.func13, Try.ntmps13
    go_wp2_with fail
    go_loopw [1, 5] (fun q i wr => ∃ (k : Nat) (l : Int), k ≤ n ∧ i = .int .i64 k ∧ q = .int .i64 l ∧ 0 ≤ l ∧ l ≤ 1048576 ∧ Hid (∀ i, i < k → ∃ x u, EnAt w b (off + i * 9) x u) ∧ Hid (Below w.heap.size w wr)) (fun _ i _ => n - (intOf i).toNat)
    case atStart => exact ⟨0, 1048576 - n, Nat.zero_le _, rfl, rfl, by omega, by omega, Lib.hid (fun i hi => absurd hi (Nat.not_lt_zero _)), Lib.hid (Below.refl _ _)⟩
    case round =>
      obtain ⟨k, l, hk, rfl, rfl, hl0, hl1, hd, hnx⟩ := hrel
      by_cases hlt : k < n
      · obtain ⟨x, ua, un, uc, hE⟩ := h.out k hlt
        have hcc : ∀ o, wr.cell? ⟨b, o, none⟩ = w.cell? ⟨b, o, none⟩ := fun o => hnx.out.cell (p := ⟨b, o, none⟩) hb
        have q0 := (hcc _).trans hE.c0
        have q1 := (hcc _).trans hE.c1
        have q2 := (hcc _).trans hE.c2
        have q3 := (hcc _).trans hE.c3
        have q4 := (hcc _).trans hE.c4
        have q5 := (hcc _).trans hE.c5
        have q6 := (hcc _).trans hE.c6
        have q7 := (hcc _).trans hE.c7
        have q8 := (hcc _).trans hE.c8
        have hun := hE.len
        have hbl := Nat.lt_of_lt_of_le hb hnx.out.size
        have hE := Lib.hid hE
        have sz := fun w => szE_any x.id.1 x.id.2 x.bal x.st x.k x.key x.v x.seq ua un uc l w hl0 hl1 (by simpa [maxLen] using hun)
        clear hcc
        by_cases hlu : l < un
        · rw [if_pos hlu] at sz
          clear hd h hE
          go_wp2_with fail
          refine (sz _).mono ?_
          rintro e w1 ⟨rfl, B⟩
          have D := Lib.hid (bstep hnx.out B)
          clear B sz q0 q1 q2 q3 q4 q5 q6 q7 q8
          go_wp2_with fail
          go_ret
          exact ⟨⟨_, rfl, .inl rfl⟩, D.out⟩
        · rw [if_neg hlu] at sz
          obtain ⟨y, hy⟩ : ∃ y, l - (un : Int) = y := ⟨_, rfl⟩
          have hy0 : ¬ y < 0 := by omega
          have hy1 : y ≤ 1048576 := by omega
          rw [hy] at sz
          have hd1 := Lib.hid (up_to hd.out (show ∃ x u, EnAt w b (off + k * 9) x u from by
            obtain ⟨C, hC⟩ := hE.out.ids.resolve_left (by omega)
            have g := hE.out
            exact ⟨{ x with deps := C }, .slice ua un uc, g.c0, g.c1, g.c2, g.c3, g.c4, g.c5, g.c6, g.c7, g.c8, hC⟩))
          clear hd hE hy hlu
          go_wp2_with fail
          refine (sz _).mono ?_
          rintro e w1 ⟨rfl, B⟩
          have D := Lib.hid (bstep hnx.out B)
          clear B sz q0 q1 q2 q3 q4 q5 q6 q7 q8
          go_wp2_with fail
          refine ⟨⟨k + 1, y, by omega, by go_num, rfl, by omega, hy1, hd1, D⟩, ?_⟩
          simp [intOf]; omega
      · obtain rfl : k = n := by omega
        go_wp2_with fail
        go_ret
        exact ⟨⟨_, rfl, .inr ⟨hl0, by omega, hd.out⟩⟩, hnx.out⟩

theorem szEs_nil (a : Option Addr) (ca : Nat) (w : World) :
    Calls Try.prog 13 #[.slice a 0 ca, .int .i64 1048576] w fun e w' => e = .returned (.int .i64 1048576) ∧ Below w.heap.size w w' := by
  go_enter Try.func13, Try.ntmps13
  go_wp2_with fail
  refine wp_loop_rounds 1 ?_
  rw [rounds_succ]
  go_wp2_with fail
  go_ret
  exact ⟨rfl, Below.refl _ _⟩

theorem ens_of {w : World} {b off n cap : Nat} (hb : b < w.heap.size) (hc : n ≤ cap) (hl : n ≤ 2000000) (h : ∀ i, i < n → ∃ x u, EnAt w b (off + i * 9) x u) : ∃ E : List En, E.length = n ∧ Ens w (.slice (some ⟨b, off, none⟩) n cap) E := by
  have h' : ∀ i, ∃ xu : En × Value, i < n → EnAt w b (off + i * 9) xu.1 xu.2 := fun i => by
    by_cases hi : i < n
    · obtain ⟨x, u, he⟩ := h i hi; exact ⟨(x, u), fun _ => he⟩
    · exact ⟨(en0, .slice none 0 0), fun hh => absurd hh hi⟩
  let f := fun i => Classical.choose (h' i)
  have hf : ∀ i, i < n → EnAt w b (off + i * 9) (f i).1 (f i).2 := fun i hi => Classical.choose_spec (h' i) hi
  have hlen : ((List.range n).map fun i => (f i).1).length = n := by simp
  refine ⟨(List.range n).map fun i => (f i).1, hlen, some ⟨b, off, none⟩, cap, by rw [hlen], by rw [hlen]; exact hc, by rw [hlen]; exact hl, .inr ⟨b, off, fun i => (f i).2, rfl, hb, fun i hi => ?_⟩⟩
  rw [hlen] at hi
  have e : ((List.range n).map fun i => (f i).1).getD i en0 = (f i).1 := by
    rw [List.getD_eq_getElem?_getD, List.getElem?_map, List.getElem?_range hi]; rfl
  rw [e]
  exact hf i hi

/-- WHAT szEntryS ANSWERS: where it is not below 0, the entries can be read. -/
theorem szEs_any (a : Option Addr) (len cap : Nat) (w : World) (h : LEs w a len cap) :
    Calls Try.prog 13 #[.slice a len cap, .int .i64 1048576] w fun e w' => (∃ z : Int, e = .returned (.int .i64 z) ∧ (z = -1 ∨ 0 ≤ z ∧ ∃ E : List En, E.length = len ∧ Ens w (.slice a len cap) E)) ∧ Below w.heap.size w w' := by
  obtain ⟨h1, h2, h3⟩ := h
  rcases h3 with rfl | ⟨b, off, rfl, hb, hc⟩
  · refine (szEs_nil a cap w).mono ?_
    rintro e w' ⟨rfl, B⟩
    exact ⟨⟨_, rfl, .inr ⟨by omega, [], rfl, a, cap, rfl, Nat.zero_le _, Nat.zero_le _, .inl rfl⟩⟩, B⟩
  · refine (szEs_at b off cap len w hb (by simpa [maxLen] using h1) hc).mono ?_
    rintro e w' ⟨⟨z, rfl, hz⟩, B⟩
    refine ⟨⟨z, rfl, ?_⟩, B⟩
    rcases hz with hz | ⟨hz, hl, hE⟩
    · exact .inl hz
    · exact .inr ⟨hz, ens_of hb h2 (by omega) hE⟩
end Go.Proofs.Ytlipmjbeiiifkaa

/- The laws' sizes of slices of entries, with their bound. -/
namespace Go.Proofs.Ytlipmjbeiiifkaa
open Go.RowKit
set_option linter.unusedVariables false

set_option maxRecDepth 100000 in
set_option maxHeartbeats 4000000 in
theorem szEb_at (b off ca n : Nat) (w : World) (hb : b < w.heap.size) (hm : n ≤ 9223372036854775807) (h : ∀ i, i < n → ∃ x ua un uc, LE w b (off + i * 9) x ua un uc) :
    Calls Try.prog 13 #[.slice (some ⟨b, off, none⟩) n ca, .int .i64 1048576] w fun e w' => (∃ z : Int, e = .returned (.int .i64 z) ∧ (z = -1 ∨ 0 ≤ z ∧ z ≤ 1048576 ∧ n ≤ 1048576 ∧ ∀ i, i < n → ∃ x u, EnAt w b (off + i * 9) x u)) ∧ Below w.heap.size w w' := by
  have h := Lib.hid h
  by_cases hl : 1048576 < n
  · go_enter Try.func13, Try.ntmps13
    go_wp2_with fail
    go_ret
    exact ⟨⟨_, rfl, .inl rfl⟩, Below.refl _ _⟩
  · go_enter Try.func13, Try.ntmps13
    go_wp2_with fail
    go_loopw [1, 5] (fun q i wr => ∃ (k : Nat) (l : Int), k ≤ n ∧ i = .int .i64 k ∧ q = .int .i64 l ∧ 0 ≤ l ∧ l ≤ 1048576 ∧ Hid (∀ i, i < k → ∃ x u, EnAt w b (off + i * 9) x u) ∧ Hid (Below w.heap.size w wr)) (fun _ i _ => n - (intOf i).toNat)
    case atStart => exact ⟨0, 1048576 - n, Nat.zero_le _, rfl, rfl, by omega, by omega, Lib.hid (fun i hi => absurd hi (Nat.not_lt_zero _)), Lib.hid (Below.refl _ _)⟩
    case round =>
      obtain ⟨k, l, hk, rfl, rfl, hl0, hl1, hd, hnx⟩ := hrel
      by_cases hlt : k < n
      · obtain ⟨x, ua, un, uc, hE⟩ := h.out k hlt
        have hcc : ∀ o, wr.cell? ⟨b, o, none⟩ = w.cell? ⟨b, o, none⟩ := fun o => hnx.out.cell (p := ⟨b, o, none⟩) hb
        have q0 := (hcc _).trans hE.c0
        have q1 := (hcc _).trans hE.c1
        have q2 := (hcc _).trans hE.c2
        have q3 := (hcc _).trans hE.c3
        have q4 := (hcc _).trans hE.c4
        have q5 := (hcc _).trans hE.c5
        have q6 := (hcc _).trans hE.c6
        have q7 := (hcc _).trans hE.c7
        have q8 := (hcc _).trans hE.c8
        have hun := hE.len
        have hbl := Nat.lt_of_lt_of_le hb hnx.out.size
        have hE := Lib.hid hE
        have sz := fun w => szE_any x.id.1 x.id.2 x.bal x.st x.k x.key x.v x.seq ua un uc l w hl0 hl1 (by simpa [maxLen] using hun)
        clear hcc
        by_cases hlu : l < un
        · rw [if_pos hlu] at sz
          clear hd h hE
          go_wp2_with fail
          refine (sz _).mono ?_
          rintro e w1 ⟨rfl, B⟩
          have D := Lib.hid (bstep hnx.out B)
          clear B sz q0 q1 q2 q3 q4 q5 q6 q7 q8
          go_wp2_with fail
          go_ret
          exact ⟨⟨_, rfl, .inl rfl⟩, D.out⟩
        · rw [if_neg hlu] at sz
          obtain ⟨y, hy⟩ : ∃ y, l - (un : Int) = y := ⟨_, rfl⟩
          have hy0 : ¬ y < 0 := by omega
          have hy1 : y ≤ 1048576 := by omega
          rw [hy] at sz
          have hd1 := Lib.hid (up_to hd.out (show ∃ x u, EnAt w b (off + k * 9) x u from by
            obtain ⟨C, hC⟩ := hE.out.ids.resolve_left (by omega)
            have g := hE.out
            exact ⟨{ x with deps := C }, .slice ua un uc, g.c0, g.c1, g.c2, g.c3, g.c4, g.c5, g.c6, g.c7, g.c8, hC⟩))
          clear hd hE hy hlu
          go_wp2_with fail
          refine (sz _).mono ?_
          rintro e w1 ⟨rfl, B⟩
          have D := Lib.hid (bstep hnx.out B)
          clear B sz q0 q1 q2 q3 q4 q5 q6 q7 q8
          go_wp2_with fail
          refine ⟨⟨k + 1, y, by omega, by go_num, rfl, by omega, hy1, hd1, D⟩, ?_⟩
          simp [intOf]; omega
      · obtain rfl : k = n := by omega
        go_wp2_with fail
        go_ret
        exact ⟨⟨_, rfl, .inr ⟨hl0, hl1, by omega, hd.out⟩⟩, hnx.out⟩

/-- WHAT szEntryS ANSWERS: where it is not below 0, the entries can be read. -/
theorem szEb_any (a : Option Addr) (len cap : Nat) (w : World) (h : LEs w a len cap) :
    Calls Try.prog 13 #[.slice a len cap, .int .i64 1048576] w fun e w' => (∃ z : Int, e = .returned (.int .i64 z) ∧ (z = -1 ∨ 0 ≤ z ∧ z ≤ 1048576 ∧ ∃ E : List En, E.length = len ∧ Ens w (.slice a len cap) E)) ∧ Below w.heap.size w w' := by
  obtain ⟨h1, h2, h3⟩ := h
  rcases h3 with rfl | ⟨b, off, rfl, hb, hc⟩
  · refine (szEs_nil a cap w).mono ?_
    rintro e w' ⟨rfl, B⟩
    exact ⟨⟨_, rfl, .inr ⟨by omega, by omega, [], rfl, a, cap, rfl, Nat.zero_le _, Nat.zero_le _, .inl rfl⟩⟩, B⟩
  · refine (szEb_at b off cap len w hb (by simpa [maxLen] using h1) hc).mono ?_
    rintro e w' ⟨⟨z, rfl, hz⟩, B⟩
    refine ⟨⟨z, rfl, ?_⟩, B⟩
    rcases hz with hz | ⟨hz, hz2, hl, hE⟩
    · exact .inl hz
    · exact .inr ⟨hz, hz2, ens_of hb h2 (by omega) hE⟩
end Go.Proofs.Ytlipmjbeiiifkaa

/- What the frames of laws over slices of entries use. -/
namespace Go.Proofs.Ytlipmjbeiiifkaa
open Go.ChangeShapes Go.WideShapes Go.ChangeAt Go.RowKit Go.Joins Go.Deep
set_option linter.unusedVariables false

theorem les_of_fn {w : World} {x : Addr} {len cap : Nat} (hl : len ≤ cap) (hm : cap ≤ maxLen)
    (h : ∀ i, i < len → ∃ (e : En) (ua : Option Addr) (un uc : Nat), (∀ j u, [Value.int .i64 e.id.1, .int .i64 e.id.2, .int .i64 e.bal, .int .i64 e.st, .int .i64 e.k, .int .i64 e.key, .int .i64 e.v, .int .i64 e.seq, .slice ua un uc][j]? = some u → w.cell? (x.add (i * 9 + j)) = some u) ∧ IdsIn w ua un uc) :
    LEs w (some x) len cap := by
  refine ⟨Nat.le_trans hl hm, hl, ?_⟩
  by_cases h0 : len = 0
  · exact .inl h0
  · obtain ⟨b, off, spot⟩ := x
    obtain ⟨e, ua, un, uc, hc, _⟩ := h 0 (by omega)
    have hc0 := hc 0 _ rfl
    have hspot : spot = none := by simpa [Addr.add] using World.cell?_spot hc0
    subst hspot
    have ea : ∀ j, (⟨b, off, none⟩ : Addr).add j = ⟨b, off + j, none⟩ := fun j => by unfold Addr.add; split <;> simp_all
    refine .inr ⟨b, off, rfl, ?_, fun i hi => ?_⟩
    · have := World.block_lt_of_cell? w _ hc0
      simpa [Addr.add] using this
    · obtain ⟨e, ua, un, uc, hc, hI⟩ := h i hi
      have c := fun j u (hj : [Value.int .i64 e.id.1, .int .i64 e.id.2, .int .i64 e.bal, .int .i64 e.st, .int .i64 e.k, .int .i64 e.key, .int .i64 e.v, .int .i64 e.seq, .slice ua un uc][j]? = some u) => by
        have := hc j u hj
        rw [ea, ← Nat.add_assoc] at this
        exact this
      exact ⟨e, ua, un, uc, c 0 _ rfl, c 1 _ rfl, c 2 _ rfl, c 3 _ rfl, c 4 _ rfl, c 5 _ rfl, c 6 _ rfl, c 7 _ rfl, c 8 _ rfl, hI.1, hI.2⟩

set_option maxRecDepth 100000 in
theorem les_of_trod {H : Type} {enc : TypeId × Value → H} {w : World} {fuel : Nat} {a : Option Addr} {len cap : Nat} {x : DataW H × List MemPlace} (h : DataW.trod enc Try.prog w 0 (fun _ => true) true fuel 41 [.slice a len cap] = some x) : LEs w a len cap := by
  rcases open_slice Try.underlying41 h with ⟨hcs, _⟩ | ⟨a', len', cap', m, n, D, Pl, hcs, _, hl, hm, hmm, _, hx⟩
  · simp at hcs
    obtain ⟨rfl, rfl, rfl⟩ := hcs
    exact ⟨Nat.zero_le _, Nat.le_refl _, .inl rfl⟩
  · simp at hcs
    obtain ⟨rfl, rfl, rfl⟩ := hcs
    simp at hmm
    subst hmm
    refine les_of_fn hl hm fun i hi => ?_
    obtain ⟨cs', h1, h2⟩ := hx i (by omega)
    rw [cells_lawsEnR] at h1
    obtain ⟨_, hlen, hcell⟩ := World.cells?_some h1
    obtain ⟨p, r, bal, st, k, key, v, s, ua, un, uc, rfl, hI⟩ := en_of_trod hlen h2
    refine ⟨⟨(p, r), bal, st, k, key, v, s, []⟩, ua, un, uc, fun j u hj => ?_, hI⟩
    have hj9 : j < 9 := by
      rcases Nat.lt_or_ge j 9 with hlt | hge
      · exact hlt
      · rw [List.getElem?_eq_none (by simpa using hge)] at hj; cases hj
    have e0 := hcell j (by simpa using hj9)
    rw [add_add] at e0
    rw [e0]
    exact hj
end Go.Proofs.Ytlipmjbeiiifkaa
