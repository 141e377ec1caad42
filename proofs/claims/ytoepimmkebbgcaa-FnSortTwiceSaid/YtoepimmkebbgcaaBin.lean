/- slices.BinarySearchFunc at ids, walked through. -/
import Derived.Test.YtoepimmkebbgcaaSsort
import Derived.Deep.LoopGhost
import Derived.Deep.RegionHeld3
namespace Go.Proofs.Ytoepimmkebbgcaa
open Go.RowKit
set_option linter.unusedVariables false

theorem bin_lo {S : List Pid} {a : Pid} {m : Nat} (hA : Asc S) (hm : m < S.length) (h : ltP (S.getD m nop) a = true) : ∀ t, t < m + 1 → ltP (S.getD t nop) a = true := by
  intro t ht
  rcases Nat.lt_or_ge t m with h1 | h1
  · exact ltP_trans (asc_lt hA h1 hm) h
  · obtain rfl : t = m := by omega
    exact h
theorem bin_hi {S : List Pid} {a : Pid} {m : Nat} (hA : Asc S) (h : ltP (S.getD m nop) a = false) : ∀ t, m ≤ t → t < S.length → ltP (S.getD t nop) a = false := by
  intro t ht hl
  rcases Nat.lt_or_ge m t with h1 | h1
  · cases hh : ltP (S.getD t nop) a with
    | false => rfl
    | true => rw [ltP_trans (asc_lt hA h1 hl) hh] at h; cases h
  · obtain rfl : t = m := by omega
    exact h
theorem bin_in {S : List Pid} {a : Pid} {m : Nat} (hA : Asc S) (hp : posP S a = m) (hm : m < S.length) (h : S.getD m nop = a) : hasP S a = true := by
  unfold hasP; rw [decide_eq_true_iff, posP_mem hA, hp]; exact ⟨hm, h⟩
theorem bin_out {S : List Pid} {a : Pid} {m : Nat} (hA : Asc S) (hp : posP S a = m) (h : ¬ (m < S.length ∧ S.getD m nop = a)) : hasP S a = false := by
  unfold hasP; rw [decide_eq_false_iff_not, posP_mem hA, hp]; exact h

theorem binS_drew {w wr w' : World} {g m : Nat} {x y p r : Int} (h : (wr.cell? ⟨w.heap.size, 0, none⟩ = some (.int .i64 x) ∧ wr.cell? ⟨w.heap.size, 1, none⟩ = some (.int .i64 y) ∧ wr.cell? ⟨g, m * 2, none⟩ = some (.int .i64 p) ∧ wr.cell? ⟨g, m * 2 + 1, none⟩ = some (.int .i64 r)) ∧ w.heap.size < wr.heap.size ∧ Below w.heap.size w wr) (e : w' = wr.drew) :
    (w'.cell? ⟨w.heap.size, 0, none⟩ = some (.int .i64 x) ∧ w'.cell? ⟨w.heap.size, 1, none⟩ = some (.int .i64 y) ∧ w'.cell? ⟨g, m * 2, none⟩ = some (.int .i64 p) ∧ w'.cell? ⟨g, m * 2 + 1, none⟩ = some (.int .i64 r)) ∧ w.heap.size < w'.heap.size ∧ Below w.heap.size w w' := by
  subst e; exact ⟨h.1, h.2.1, h.2.2.drew⟩
theorem binS_up {w wr w' : World} {g m : Nat} {x y p r : Int} (B : Below wr.heap.size wr w') (h : (wr.cell? ⟨w.heap.size, 0, none⟩ = some (.int .i64 x) ∧ wr.cell? ⟨w.heap.size, 1, none⟩ = some (.int .i64 y) ∧ wr.cell? ⟨g, m * 2, none⟩ = some (.int .i64 p) ∧ wr.cell? ⟨g, m * 2 + 1, none⟩ = some (.int .i64 r)) ∧ w.heap.size < wr.heap.size ∧ Below w.heap.size w wr) :
    (w'.cell? ⟨w.heap.size, 0, none⟩ = some (.int .i64 x) ∧ w'.cell? ⟨w.heap.size, 1, none⟩ = some (.int .i64 y) ∧ w'.cell? ⟨g, m * 2, none⟩ = some (.int .i64 p) ∧ w'.cell? ⟨g, m * 2 + 1, none⟩ = some (.int .i64 r)) ∧ w.heap.size < w'.heap.size ∧ Below w.heap.size w w' :=
  ⟨⟨cell_later B h.1.1, cell_later B h.1.2.1, cell_later B h.1.2.2.1, cell_later B h.1.2.2.2⟩, Nat.lt_of_lt_of_le h.2.1 B.size, bstep h.2.2 B⟩

set_option maxHeartbeats 4000000 in
theorem bin_at (g cap : Nat) (S : List Pid) (x y : Int) (w : World) (hA : Asc S) (hg : g < w.heap.size) (hl : S.length ≤ 2000000) (h : ∀ i, i < S.length → w.cell? ⟨g, i * 2, none⟩ = some (.int .i64 (S.getD i nop).1) ∧ w.cell? ⟨g, i * 2 + 1, none⟩ = some (.int .i64 (S.getD i nop).2)) :
    Calls Try.prog 35 #[.slice (some ⟨g, 0, none⟩) S.length cap, .agg #[.int .i64 x, .int .i64 y], .func (.func 31) #[] #[]] w fun e w' =>
      e = .returned (.tuple #[.int .i64 (posP S (x, y)), .bool (hasP S (x, y))]) ∧ Below w.heap.size w w' := by
  have h := Lib.hid h
  have hA := Lib.hid hA
  obtain ⟨n, hn⟩ : ∃ n, Hid (S.length = n) := ⟨_, Lib.hid rfl⟩
  obtain ⟨ps, hps⟩ : ∃ q, Hid (posP S (x, y) = q) := ⟨_, Lib.hid rfl⟩
  obtain ⟨fo, hfo⟩ : ∃ q, Hid (hasP S (x, y) = q) := ⟨_, Lib.hid rfl⟩
  rw [hn.out] at hl ⊢
  rw [hps.out, hfo.out]
  go_enter Try.func35, Try.ntmps35
  go_wp2_with fail
  go_loopg [9, 10] n (fun kx s9 s10 wr => ∃ lo hi : Nat, s9 = .int .i64 lo ∧ s10 = .int .i64 hi ∧ lo ≤ hi ∧ hi ≤ n ∧ hi - lo ≤ kx ∧ wr.cell? ⟨w.heap.size, 0, none⟩ = some (.int .i64 x) ∧ wr.cell? ⟨w.heap.size, 1, none⟩ = some (.int .i64 y) ∧ w.heap.size < wr.heap.size ∧ Hid (Below w.heap.size w wr) ∧
    Hid ((∀ t, t < lo → ltP (S.getD t nop) (x, y) = true) ∧ (∀ t, hi ≤ t → t < S.length → ltP (S.getD t nop) (x, y) = false)))
  case atStart => exact ⟨0, n, rfl, rfl, Nat.zero_le _, Nat.le_refl _, by omega, by go_simp, by go_simp, by simp, Lib.hid ((Below.refl _ _).alloc (Nat.le_refl _) _), Lib.hid ⟨fun t ht => absurd ht (Nat.not_lt_zero _), fun t h1 h2 => by have := hn.out; omega⟩⟩
  case round =>
    obtain ⟨lo, hi, rfl, rfl, hlh, hin, hgap, x0, x1, hs, hnx, I⟩ := hrel
    by_cases hlt : lo < hi
    · obtain ⟨m, hm⟩ : ∃ m, m = (lo + hi) / 2 := ⟨_, rfl⟩
      have em : ((lo : Int) + (hi : Int)) / 2 = (m : Int) := by omega
      have hm1 : m < n := by omega
      have hm2 : lo ≤ m := by omega
      have hm3 : m < hi := by omega
      clear hm
      have em := Lib.hid em
      have q0 := (hnx.out.cell (p := ⟨g, m * 2, none⟩) hg).trans (h.out m (by rw [hn.out]; exact hm1)).1
      have q1 := (hnx.out.cell (p := ⟨g, m * 2 + 1, none⟩) hg).trans (h.out m (by rw [hn.out]; exact hm1)).2
      obtain ⟨c, hc⟩ : ∃ c, Hid (S.getD m nop = c) := ⟨_, Lib.hid rfl⟩
      rw [hc.out] at q0 q1
      obtain ⟨p, r⟩ := c
      dsimp only at q0 q1
      have sc := cmpI_any p r x y
      have en := cmpI_neg p r x y
      obtain ⟨z, hz⟩ : ∃ z, cmpI p r x y = z := ⟨_, rfl⟩
      rw [hz] at sc en
      have en2 : (z < 0) = (ltB p r x y = true) := by rw [← en]; simp
      have hm0 : (0 : Int) ≤ (m : Int) := by omega
      have hm4 : (m : Int) ≤ (n : Int) := by omega
      have hm5 : (m : Int) < (n : Int) := by omega
      clear en hz
      have S0 : Hid ((wr.cell? ⟨w.heap.size, 0, none⟩ = some (.int .i64 x) ∧ wr.cell? ⟨w.heap.size, 1, none⟩ = some (.int .i64 y) ∧ wr.cell? ⟨g, m * 2, none⟩ = some (.int .i64 p) ∧ wr.cell? ⟨g, m * 2 + 1, none⟩ = some (.int .i64 r)) ∧ w.heap.size < wr.heap.size ∧ Below w.heap.size w wr) := Lib.hid ⟨⟨x0, x1, q0, q1⟩, hs, hnx.out⟩
      by_cases hb : ltB p r x y = true
      · have hz : z < 0 := by rw [en2]; exact hb
        have J := Lib.hid (bin_lo hA.out (m := m) (by rw [hn.out]; exact hm1) (show ltP (S.getD m nop) (x, y) = true by rw [hc.out]; exact hb))
        clear en2 hb h x0 x1 q0 q1 hs hnx
        go_upto_region 5 with fail
        go_region_held3 (fun w' => (w'.cell? ⟨w.heap.size, 0, none⟩ = some (.int .i64 x) ∧ w'.cell? ⟨w.heap.size, 1, none⟩ = some (.int .i64 y) ∧ w'.cell? ⟨g, m * 2, none⟩ = some (.int .i64 p) ∧ w'.cell? ⟨g, m * 2 + 1, none⟩ = some (.int .i64 r)) ∧ w.heap.size < w'.heap.size ∧ Below w.heap.size w w') (first | exact binS_drew S0.out rfl | exact binS_up (by assumption) (by assumption))
          (first | (go_at_call 31; (with_reducible refine (sc _).mono ?_); rintro e w' ⟨rfl, hb⟩))
        rename_i hHeld
        go_wp2_with fail
        go_roundg (hi - (m + 1))
        case measure => omega
        case rel => exact ⟨m + 1, hi, by go_num, rfl, by omega, hin, Nat.le_refl _, hHeld.1.1, hHeld.1.2.1, hHeld.2.1, Lib.hid hHeld.2.2, Lib.hid ⟨J.out, I.out.2⟩⟩
      · have hz : ¬ z < 0 := by rw [en2]; exact hb
        have J := Lib.hid (bin_hi hA.out (m := m) (show ltP (S.getD m nop) (x, y) = false by rw [hc.out]; simpa [ltP] using hb))
        clear en2 hb h x0 x1 q0 q1 hs hnx
        go_upto_region 5 with fail
        go_region_held3 (fun w' => (w'.cell? ⟨w.heap.size, 0, none⟩ = some (.int .i64 x) ∧ w'.cell? ⟨w.heap.size, 1, none⟩ = some (.int .i64 y) ∧ w'.cell? ⟨g, m * 2, none⟩ = some (.int .i64 p) ∧ w'.cell? ⟨g, m * 2 + 1, none⟩ = some (.int .i64 r)) ∧ w.heap.size < w'.heap.size ∧ Below w.heap.size w w') (first | exact binS_drew S0.out rfl | exact binS_up (by assumption) (by assumption))
          (first | (go_at_call 31; (with_reducible refine (sc _).mono ?_); rintro e w' ⟨rfl, hb⟩))
        rename_i hHeld
        go_wp2_with fail
        go_roundg (m - lo)
        case measure => omega
        case rel => exact ⟨lo, m, rfl, rfl, by omega, by omega, Nat.le_refl _, hHeld.1.1, hHeld.1.2.1, hHeld.2.1, Lib.hid hHeld.2.2, Lib.hid ⟨I.out.1, J.out⟩⟩
    · obtain ⟨m, rfl⟩ : ∃ m, m = hi := ⟨_, rfl⟩
      obtain rfl : lo = m := by omega
      obtain ⟨m, rfl⟩ : ∃ m, m = lo := ⟨_, rfl⟩
      have hp : posP S (x, y) = m := posP_of (by rw [hn.out]; exact hin) I.out.1 I.out.2
      have ep := hps.out
      rw [hp] at ep
      subst ep
      have hfo' := hfo.out
      clear hps I
      by_cases hlt2 : m < n
      · have q0 := (hnx.out.cell (p := ⟨g, m * 2, none⟩) hg).trans (h.out m (by rw [hn.out]; exact hlt2)).1
        have q1 := (hnx.out.cell (p := ⟨g, m * 2 + 1, none⟩) hg).trans (h.out m (by rw [hn.out]; exact hlt2)).2
        obtain ⟨c, hc⟩ : ∃ c, Hid (S.getD m nop = c) := ⟨_, Lib.hid rfl⟩
        rw [hc.out] at q0 q1
        obtain ⟨p, r⟩ := c
        dsimp only at q0 q1
        have sc := cmpI_any p r x y
        have ez := cmpI_zero p r x y
        obtain ⟨z, hz⟩ : ∃ z, cmpI p r x y = z := ⟨_, rfl⟩
        rw [hz] at sc ez
        have hm0 : (0 : Int) ≤ (m : Int) := by omega
        have hm5 : (m : Int) < (n : Int) := by omega
        have S0 : Hid ((wr.cell? ⟨w.heap.size, 0, none⟩ = some (.int .i64 x) ∧ wr.cell? ⟨w.heap.size, 1, none⟩ = some (.int .i64 y) ∧ wr.cell? ⟨g, m * 2, none⟩ = some (.int .i64 p) ∧ wr.cell? ⟨g, m * 2 + 1, none⟩ = some (.int .i64 r)) ∧ w.heap.size < wr.heap.size ∧ Below w.heap.size w wr) := Lib.hid ⟨⟨x0, x1, q0, q1⟩, hs, hnx.out⟩
        clear hz x0 x1 q0 q1 hs hnx h
        have hml : m < S.length := by rw [hn.out]; exact hlt2
        by_cases e0 : z = 0
        · obtain ⟨rfl, rfl⟩ := ez.1 e0
          rw [bin_in hA.out hp hml hc.out] at hfo'
          subst hfo'
          subst e0
          clear ez hp hml hc hfo hA hn
          go_upto_region 8 with fail
          go_region_held3 (fun w' => (w'.cell? ⟨w.heap.size, 0, none⟩ = some (.int .i64 p) ∧ w'.cell? ⟨w.heap.size, 1, none⟩ = some (.int .i64 r) ∧ w'.cell? ⟨g, m * 2, none⟩ = some (.int .i64 p) ∧ w'.cell? ⟨g, m * 2 + 1, none⟩ = some (.int .i64 r)) ∧ w.heap.size < w'.heap.size ∧ Below w.heap.size w w') (first | exact binS_drew S0.out rfl | exact binS_up (by assumption) (by assumption))
            (first | (go_at_call 31; (with_reducible refine (sc _).mono ?_); rintro e w' ⟨rfl, hb⟩))
          rename_i hHeld
          go_wp2_with fail
          go_ret2
          exact ⟨rfl, hHeld.2.2⟩
        · have hne : ¬ (m < S.length ∧ S.getD m nop = (x, y)) := fun hh => e0 (ez.2 (by have := hc.out.symm.trans hh.2; exact ⟨congrArg Prod.fst this, congrArg Prod.snd this⟩))
          rw [bin_out hA.out hp hne] at hfo'
          subst hfo'
          clear ez hp hml hc hfo hA hn hne
          go_upto_region 8 with fail
          go_region_held3 (fun w' => (w'.cell? ⟨w.heap.size, 0, none⟩ = some (.int .i64 x) ∧ w'.cell? ⟨w.heap.size, 1, none⟩ = some (.int .i64 y) ∧ w'.cell? ⟨g, m * 2, none⟩ = some (.int .i64 p) ∧ w'.cell? ⟨g, m * 2 + 1, none⟩ = some (.int .i64 r)) ∧ w.heap.size < w'.heap.size ∧ Below w.heap.size w w') (first | exact binS_drew S0.out rfl | exact binS_up (by assumption) (by assumption))
            (first | (go_at_call 31; (with_reducible refine (sc _).mono ?_); rintro e w' ⟨rfl, hb⟩))
          rename_i hHeld
          go_wp2_with fail
          go_ret2
          exact ⟨by simp [e0], hHeld.2.2⟩
      · rw [bin_out hA.out hp (fun hh => hlt2 (by rw [← hn.out]; exact hh.1))] at hfo'
        subst hfo'
        have hd : decide (m < n) = false := by simpa using hlt2
        clear hp hfo hA hn h
        go_wp2_with fail
        go_quiet (fail)
        go_wp2_with fail
        go_ret2
        exact ⟨rfl, bdrewN hnx.out _⟩
end Go.Proofs.Ytoepimmkebbgcaa
