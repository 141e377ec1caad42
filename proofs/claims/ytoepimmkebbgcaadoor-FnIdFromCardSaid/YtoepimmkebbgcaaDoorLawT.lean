/- The walks of the laws on texts of ids. -/
import Derived.Test.YtoepimmkebbgcaaDoorDidf
import Derived.Test.YtoepimmkebbgcaaDoorToId
namespace Go.Proofs.YtoepimmkebbgcaaDoor
open Go.RowKit
set_option linter.unusedVariables false
set_option maxRecDepth 100000

set_option maxHeartbeats 1000000 in
theorem exIdText_any (r n : Int) (w : World) :
    Calls Tryd.prog 6 #[.agg #[.int .i64 r, .int .i64 n]] w fun e w' => e = .returned (.bool true) ∧ Below w.heap.size w w' := by
  have s1 := sidt_any r n
  have s2 := iidt_any r n
  generalize idTx r n = t at s1 s2
  go_enter Tryd.func6, Tryd.ntmps6
  go_wp2_with fail
  refine (toId_any r n _).mono ?_
  rintro e w1 ⟨rfl, hb1⟩
  have A1 := (hb1.block w.heap.size (by simp)).trans (heap_alloc_new w _)
  have D1 := Lib.hid (((Below.refl _ _).alloc (Nat.le_refl _) _).trans (hb1.mono (by simp)))
  have z1 : w.heap.size + 1 ≤ w1.heap.size := by simpa using hb1.size
  have A1 := Lib.hid A1; clear hb1
  go_wp2_with fail
  refine (s1 _).mono ?_
  rintro e w2 ⟨rfl, hb2⟩
  have A2 := (hb2.block w.heap.size (by omega)).trans A1.out
  obtain ⟨a1, a2, _, _⟩ := blk2 A2
  have D2 := Lib.hid (D1.out.trans (hb2.mono (by omega)))
  have z2 := hb2.size
  clear hb2 A2 A1 D1
  go_wp2_with fail
  refine (toId_any r n _).mono ?_
  rintro e w3 ⟨rfl, hb3⟩
  have D3 := Lib.hid (D2.out.trans (hb3.mono (by omega)))
  have z3 := hb3.size
  clear hb3 D2 a1 a2
  go_wp2_with fail
  refine (s2 _).mono ?_
  rintro e w4 ⟨rfl, hb4⟩
  have D4 := Lib.hid (D3.out.trans (hb4.mono (by omega)))
  clear hb4 D3
  go_wp2_with fail
  go_ret
  exact ⟨rfl, D4.out⟩

theorem eqId_self (r n : Int) (w : World) :
    Calls Tryd.prog 16 #[.agg #[.int .i64 r, .int .i64 n], .agg #[.int .i64 r, .int .i64 n]] w fun e w' => e = .returned (.bool true) ∧ Below w.heap.size w w' := by
  go_enter Tryd.func16, Tryd.ntmps16
  go_wp2_with fail
  go_ret
  exact ⟨rfl, ((Below.refl _ _).alloc (Nat.le_refl _) _).alloc (by simp) _⟩

set_option maxHeartbeats 1000000 in
theorem exIdFrom_any (s : ByteArray) (w : World) (hsz : s.size ≤ maxLen) (hg : Gl w) :
    Calls Tryd.prog 7 #[.string s] w fun e w' => e = .returned (.bool true) ∧ Below w.heap.size w w' := by
  unfold maxLen at hsz
  by_cases hl : 1048576 < s.size
  · clear hg
    go_enter Tryd.func7, Tryd.ntmps7
    go_wp2_with fail
    go_ret
    exact ⟨rfl, Below.refl _ _⟩
  · obtain ⟨a, b, q, h1, h2, _⟩ := both_fr s (by omega)
    have h1 := Lib.hid h1
    have hg := Lib.hid hg
    go_enter Tryd.func7, Tryd.ntmps7
    go_wp2_with fail
    refine (h2 _).mono ?_
    rintro e w1 ⟨rfl, hb1⟩
    have D1 := Lib.hid hb1
    clear hb1 h2
    go_wp2_with fail
    refine (h1.out _ (hg.out.up (D1.out.alloc D1.out.size _))).mono ?_
    rintro e w2 ⟨rfl, hb2⟩
    have h12 : Below w1.heap.size w1 w2 := ((Below.refl _ _).alloc (Nat.le_refl _) _).trans (hb2.mono (by simp))
    obtain ⟨a1, a2, _, _⟩ := blk2 ((hb2.block w1.heap.size (by simp)).trans (heap_alloc_new w1 _))
    have D2 := Lib.hid (D1.out.trans (h12.mono D1.out.size))
    have z2 : w1.heap.size < w2.heap.size := by have := hb2.size; simp at this; omega
    clear hb2 h12 h1 hg
    go_wp2_with fail
    refine (eqId_self a b _).mono ?_
    rintro e w3 ⟨rfl, hb3⟩
    have D3 := Lib.hid ((D2.out.alloc D2.out.size (.cells #[.int .i64 a, .int .i64 b] 24)).trans (hb3.mono (by have := D2.out.size; simp; omega)))
    clear hb3 a1 a2
    go_wp2_with fail
    go_ret
    exact ⟨rfl, D3.out⟩

theorem ifr_yes {m n : Nat} (hm : m < 5) (hn1 : 1 ≤ n) (hn : n < 51) (w : World) (hg : Gl w) :
    Calls Tryd.prog 11 #[.string (txI m n)] w fun e w' => e = .returned (.tuple #[.agg #[.int .i64 m, .int .i64 n], .bool true]) ∧ Below w.heap.size w w' := by
  have h1 := ifr_any (txI m n) (by have := (txI_ne m hm n hn).2; omega) w hg
  rw [(txI_X hm hn).1, (txI_X hm hn).2, numI_dec m (by omega), numI_dec n (by omega), frE_yes (idB_of' hm hn1 hn)] at h1
  exact h1
theorem txI_nil {m n : Nat} (hm : m < 5) (hn : n < 51) : ¬ txI m n = ⟨#[]⟩ := fun e => by
  have := (txI_ne m hm n hn).1
  rw [e] at this
  exact absurd this (by decide)

set_option maxHeartbeats 2000000 in
theorem fnIdText_walk (a : Option Addr) (len cap : Nat) (w : World) (hc : CodeIn w a len cap) (hcap : cap ≤ maxLen) (hg : Gl w) :
    Calls Tryd.prog 3 #[.slice a len cap] w fun e w' => e = .returned (.bool true) ∧ Below w.heap.size w w' := by
  have hm : cap ≤ 9223372036854775807 := by simpa [maxLen] using hcap
  have hlc := hc.1
  by_cases hl : 1048576 < len
  · clear hc hcap hg
    go_enter Tryd.func3, Tryd.ntmps3
    go_wp2_with fail
    go_ret
    exact ⟨rfl, Below.refl _ _⟩
  · have hc1 := Lib.hid hc
    have hcap1 := Lib.hid hcap
    have hg := Lib.hid hg
    clear hc hcap
    go_enter Tryd.func3, Tryd.ntmps3
    go_wp2_with fail
    refine (dit_any a len cap w hc1.out hcap1.out).mono ?_
    rintro e w1 ⟨k, v, rfl, D1'⟩
    have D1 := Lib.hid D1'
    clear hc1 hcap1 D1'
    have s1 := iidt_any k v
    have s2 := sidt_any k v
    by_cases hv : idB k v = true
    · rw [idTx_yes hv] at s1 s2
      obtain ⟨p, q, rfl, rfl, hp, hq1, hq⟩ := idB_nat hv
      simp only [Int.toNat_natCast] at s1 s2
      have s3 := Lib.hid (fun w hg => ifr_yes hp hq1 hq w hg)
      have hne := txI_nil hp hq
      have q0 : ((txI p q).toList == []) = false := lit_neW (l := []) hne
      have q1 : ¬ (txI p q).toList = [] := by rw [ByteArray.toList_eq]; exact fun h => hne (bytes_ext (by simpa using h))
      have q2 : (txI p q).toList.isEmpty = false := by simpa using q1
      clear hv
      generalize txI p q = t at s1 s2 s3 hne q0 q1 q2
      have T1 := Lib.hid (One.start w1 p q)
      go_wp2_with fail
      refine (s1 _).mono ?_
      rintro e w2 ⟨rfl, hb⟩
      have T2 := T1.out.up hb
      obtain ⟨a0, a1, _, _⟩ := blk2 T2.a
      have z2 := T2.z
      have T2 := Lib.hid T2
      clear hb T1 s1
      go_wp2_with fail
      refine (s2 _).mono ?_
      rintro e w3 ⟨rfl, hb⟩
      have T3 := T2.out.up hb
      clear hb T2 a0 a1 z2 s2
      have z3 := T3.z
      have T3 := Lib.hid T3
      have D3 := Lib.hid (D1.out.trans (T3.out.d.mono D1.out.size))
      go_wp2_with fail
      refine (s3.out _ (hg.out.up D3.out)).mono ?_
      rintro e w4 ⟨rfl, hb⟩
      have T4 := T3.out.up hb
      obtain ⟨a0, a1, _, _⟩ := blk2 T4.a
      have z4 := T4.z
      have D4 := Lib.hid (bstep D3.out hb)
      have hlt : w1.heap.size < w4.heap.size := by omega
      clear hb T3 T4 s3 hg
      go_wp2_with fail
      go_ret
      exact ⟨by simp, D4.out.alloc D4.out.size _⟩
    · rw [idTx_no (by simpa using hv)] at s1 s2
      have T1 := Lib.hid (One.start w1 k v)
      clear hv hg
      go_wp2_with fail
      refine (s1 _).mono ?_
      rintro e w2 ⟨rfl, hb⟩
      have T2 := T1.out.up hb
      obtain ⟨a0, a1, _, _⟩ := blk2 T2.a
      have z2 := T2.z
      have T2 := Lib.hid T2
      clear hb T1 s1
      go_wp2_with fail
      refine (s2 _).mono ?_
      rintro e w3 ⟨rfl, hb⟩
      have T3 := Lib.hid (T2.out.up hb)
      clear hb T2 a0 a1 z2 s2
      go_wp2_with fail
      go_ret
      exact ⟨by simp, D1.out.trans (T3.out.d.mono D1.out.size)⟩

set_option maxHeartbeats 2000000 in
theorem fnIdFromNot_walk (a : Option Addr) (len cap : Nat) (w : World) (hc : CodeIn w a len cap) (hcap : cap ≤ maxLen) (hg : Gl w) :
    Calls Tryd.prog 5 #[.slice a len cap] w fun e w' => e = .returned (.bool true) ∧ Below w.heap.size w w' := by
  have hm : cap ≤ 9223372036854775807 := by simpa [maxLen] using hcap
  have hlc := hc.1
  by_cases hl : 1048576 < len
  · clear hc hcap hg
    go_enter Tryd.func5, Tryd.ntmps5
    go_wp2_with fail
    go_ret
    exact ⟨rfl, Below.refl _ _⟩
  · have hc1 := Lib.hid hc
    have hcap1 := Lib.hid hcap
    have hg := Lib.hid hg
    clear hc hcap
    go_enter Tryd.func5, Tryd.ntmps5
    go_wp2_with fail
    refine (drawText_any a len cap w hc1.out hcap1.out).mono ?_
    rintro e w1 ⟨s, hsz, rfl, D1'⟩
    have D1 := Lib.hid D1'
    clear hc1 hcap1 D1'
    obtain ⟨k, v, b, h1, h2, h3⟩ := both_fr s (by omega)
    have h1 := Lib.hid h1
    have h2 := Lib.hid h2
    have h3 := Lib.hid h3
    go_wp2_with fail
    refine (h1.out _ (hg.out.up D1.out)).mono ?_
    rintro e w2 ⟨rfl, hb2⟩
    have D2 := Lib.hid (D1.out.trans (hb2.mono D1.out.size))
    clear hb2 h1 D1
    go_wp2_with fail
    refine (h2.out _).mono ?_
    rintro e w3 ⟨rfl, hb3⟩
    obtain ⟨a1, a2, _, _⟩ := blk2 ((hb3.block w2.heap.size (by simp)).trans (heap_alloc_new w2 _))
    have h23 : Below w2.heap.size w2 w3 := ((Below.refl _ _).alloc (Nat.le_refl _) _).trans (hb3.mono (by simp))
    have z3 : w2.heap.size < w3.heap.size := by have := hb3.size; simp at this; omega
    have D3 := Lib.hid (D2.out.trans (h23.mono D2.out.size))
    clear hb3 h23 h2 D2
    rcases h3.out with ⟨rfl, m, n, rfl, rfl, hm5, hn1, hn, ht⟩ | ⟨rfl, rfl, rfl, _⟩
    · obtain ⟨ka, va, ba, x1, _, x3⟩ := both_fr (s ++ ⟨#[32]⟩) (by rw [ByteArray.size_append]; have : (⟨#[32]⟩ : ByteArray).size = 1 := rfl; omega)
      obtain ⟨kb, vb, bb, y1, _, y3⟩ := both_fr (⟨#[48]⟩ ++ s) (by rw [ByteArray.size_append]; have : (⟨#[48]⟩ : ByteArray).size = 1 := rfl; omega)
      obtain rfl := fr_no x3 (by rw [← ht]; exact no_blank hm5 hn)
      obtain rfl := fr_no y3 (by rw [← ht]; exact no_zero hm5 hn)
      have s1 := Lib.hid x1
      have s2 := Lib.hid y1
      have l1 : ¬ 9223372036854775807 < s.size + 1 := by omega
      have l2 : ¬ 9223372036854775807 < 1 + s.size := by omega
      clear h3 ht x1 x3 y1 y3
      go_wp2_with fail
      refine (s1.out _ (hg.out.up (D3.out.alloc D3.out.size _))).mono ?_
      rintro e w4 ⟨rfl, hb4⟩
      have h34 : Below w3.heap.size w3 w4 := ((Below.refl _ _).alloc (Nat.le_refl _) _).trans (hb4.mono (by simp))
      have D4 := Lib.hid (D3.out.trans (h34.mono D3.out.size))
      clear hb4 h34 s1 D3 a1 a2
      go_wp2_with fail
      refine (s2.out _ (hg.out.up (D4.out.alloc D4.out.size _))).mono ?_
      rintro e w5 ⟨rfl, hb5⟩
      have h45 : Below w4.heap.size w4 w5 := ((Below.refl _ _).alloc (Nat.le_refl _) _).trans (hb5.mono (by simp))
      have D5 := Lib.hid (D4.out.trans (h45.mono D4.out.size))
      clear hb5 h45 s2 D4
      go_wp2_with fail
      go_ret
      exact ⟨rfl, D5.out.alloc D5.out.size _⟩
    · clear hg h3
      go_wp2_with fail
      go_ret
      exact ⟨rfl, D3.out.alloc D3.out.size _⟩

set_option maxHeartbeats 2000000 in
theorem fnIdFrom_walk (a : Option Addr) (len cap : Nat) (w : World) (hc : CodeIn w a len cap) (hcap : cap ≤ maxLen) (hg : Gl w) :
    Calls Tryd.prog 4 #[.slice a len cap] w fun e w' => e = .returned (.bool true) ∧ Below w.heap.size w w' := by
  have hm : cap ≤ 9223372036854775807 := by simpa [maxLen] using hcap
  have hlc := hc.1
  by_cases hl : 1048576 < len
  · clear hc hcap hg
    go_enter Tryd.func4, Tryd.ntmps4
    go_wp2_with fail
    go_ret
    exact ⟨rfl, Below.refl _ _⟩
  · have hc1 := Lib.hid hc
    have hcap1 := Lib.hid hcap
    have hg := Lib.hid hg
    clear hc hcap
    go_enter Tryd.func4, Tryd.ntmps4
    go_wp2_with fail
    refine (drawText_any a len cap w hc1.out hcap1.out).mono ?_
    rintro e w1 ⟨s, hsz, rfl, D1'⟩
    have D1 := Lib.hid D1'
    clear hc1 hcap1 D1'
    obtain ⟨k, v, b, h1, h2, h3⟩ := both_fr s (by omega)
    have h1 := Lib.hid h1
    have h2 := Lib.hid h2
    have h3 := Lib.hid h3
    go_wp2_with fail
    refine (h1.out _ (hg.out.up D1.out)).mono ?_
    rintro e w2 ⟨rfl, hb2⟩
    have D2 := Lib.hid (D1.out.trans (hb2.mono D1.out.size))
    clear hb2 h1 D1 hg
    have T2 := Lib.hid (One.start w2 k v)
    go_wp2_with fail
    refine (h2.out _).mono ?_
    rintro e w3 ⟨rfl, hb3⟩
    have T3 := T2.out.up hb3
    obtain ⟨a1, a2, _, _⟩ := blk2 T3.a
    have z3 : w2.heap.size < w3.heap.size := by have := T3.z; omega
    have T3 := Lib.hid (T3.up ((Below.refl _ _).alloc (Nat.le_refl _) (.cells #[.int .i64 k, .int .i64 v] 24)))
    clear hb3 h2 T2
    rcases h3.out with ⟨rfl, m, n, rfl, rfl, hm5, hn1, hn, ht⟩ | ⟨rfl, rfl, rfl, _⟩
    · have s1 := iidv_any m n
      have s2 := iidt_any m n
      rw [idB_of' hm5 hn1 hn] at s1
      rw [idTx_yes (idB_of' hm5 hn1 hn)] at s2
      simp only [Int.toNat_natCast] at s2
      rw [ht] at s2
      clear h3 ht
      go_wp2_with fail
      refine (s1 _).mono ?_
      rintro e w4 ⟨rfl, hb⟩
      have T4 := T3.out.up hb
      clear hb T3 a1 a2 s1
      obtain ⟨a1, a2, _, _⟩ := blk2 T4.a
      have z4 : w2.heap.size < w4.heap.size := by have := T4.z; omega
      have T4 := Lib.hid T4
      go_wp2_with fail
      refine (s2 _).mono ?_
      rintro e w5 ⟨rfl, hb⟩
      have T5 := Lib.hid (T4.out.up hb)
      clear hb T4 a1 a2 s2
      go_wp2_with fail
      go_ret
      exact ⟨by simp, D2.out.trans (T5.out.d.mono D2.out.size)⟩
    · clear h3
      go_wp2_with fail
      go_ret
      exact ⟨rfl, D2.out.trans (T3.out.d.mono D2.out.size)⟩
end Go.Proofs.YtoepimmkebbgcaaDoor
