/- The walks of the laws FnCommandText, FnCommandFrom, FnCommandBlank. -/
import Derived.Test.YthdofjfjefcfpaaDoorDrawt
namespace Go.Proofs.YthdofjfjefcfpaaDoor
open Go.RowKit
set_option linter.unusedVariables false
set_option maxRecDepth 100000

set_option maxHeartbeats 2000000 in
theorem fnCommandText_walk (a : Option Addr) (len cap : Nat) (w : World) (hc : CodeIn w a len cap) (hcap : cap ≤ maxLen) (hg : Gl w) :
    Calls Tryd.prog 3 #[.slice a len cap] w fun e w' => e = .returned (.bool true) ∧ Below w.heap.size w w' := by
  have hm : cap ≤ 9223372036854775807 := by simpa [maxLen] using hcap
  have hlc := hc.1
  by_cases hl : 1048576 < len
  · clear hc hcap hg
    go_enter Tryd.func3, Tryd.ntmps3
    go_wp2_with fail
    go_ret
    exact ⟨rfl, Below.refl _ _⟩
  · have hc1 := Lib.hid hc
    have hcap1 := Lib.hid hcap
    have hg := Lib.hid hg
    clear hc hcap
    go_enter Tryd.func3, Tryd.ntmps3
    go_wp2_with fail
    refine (one_any a len cap w hc1.out hcap1.out).mono ?_
    rintro e w1 ⟨k, key, v, rfl, D1'⟩
    have D1 := Lib.hid D1'
    clear hc1 hcap1 D1'
    go_wp2_with fail
    refine (itext_any k key v _).mono ?_
    rintro e w2 ⟨rfl, hb2⟩
    have h12 : Below w1.heap.size w1 w2 := ((Below.refl _ _).alloc (Nat.le_refl _) _).trans (hb2.mono (by simp))
    obtain ⟨a1, a2, a3, _, _, _⟩ := blk3 ((hb2.block w1.heap.size (by simp)).trans (heap_alloc_new w1 _))
    have z2 : w1.heap.size < w2.heap.size := by have := hb2.size; simp at this; omega
    have D2 := Lib.hid (D1.out.trans (h12.mono D1.out.size))
    clear hb2 h12
    go_wp2_with fail
    refine (stext_any k key v _).mono ?_
    rintro e w3 ⟨rfl, hb3⟩
    have a1 := cell_later hb3 a1; have a2 := cell_later hb3 a2; have a3 := cell_later hb3 a3
    have z3 : w1.heap.size < w3.heap.size := by have := hb3.size; omega
    have D3 := Lib.hid (D2.out.trans (hb3.mono D2.out.size))
    clear hb3 D1 D2
    by_cases hv : cvB k key v = true
    · have s1 := Lib.hid (fun w hg => ifrom_yes k key v hv (by have := txt_size hv; omega) w hg)
      have he := txt_ne hv
      have q0 : ((txt k key v).toList == []) = false := lit_ne (l := []) he
      have q1 : ¬ (txt k key v).toList = [] := by rw [ByteArray.toList_eq]; exact fun h => he (bytes_ext (by simpa using h))
      have q2 : (txt k key v).toList.isEmpty = false := by simpa using q1
      generalize txt k key v = t at q0 q1 q2 s1 ⊢
      clear he hv
      go_wp2_with fail
      refine (s1.out _ (hg.out.up D3.out)).mono ?_
      rintro e w4 ⟨rfl, hb4⟩
      have a1 := cell_later hb4 a1; have a2 := cell_later hb4 a2; have a3 := cell_later hb4 a3
      have z4 : w1.heap.size < w4.heap.size := by have := hb4.size; omega
      have D4 := Lib.hid (D3.out.trans (hb4.mono D3.out.size))
      clear hb4 D3 s1 hg
      go_wp2_with fail
      go_ret
      exact ⟨rfl, D4.out.alloc D4.out.size _⟩
    · have he : txt k key v = ⟨#[]⟩ := by unfold txt; rw [if_neg hv]
      have q0 : (txt k key v).toList = [] := by rw [he, ByteArray.toList_eq]
      have q2 : (txt k key v).toList.isEmpty = true := by simp [q0]
      generalize txt k key v = t at q0 q2 ⊢
      clear hg hv
      go_wp2_with fail
      go_ret
      exact ⟨rfl, D3.out⟩

set_option maxHeartbeats 2000000 in
theorem fnCommandFrom_walk (a : Option Addr) (len cap : Nat) (w : World) (hc : CodeIn w a len cap) (hcap : cap ≤ maxLen) (hg : Gl w) :
    Calls Tryd.prog 4 #[.slice a len cap] w fun e w' => e = .returned (.bool true) ∧ Below w.heap.size w w' := by
  have hm : cap ≤ 9223372036854775807 := by simpa [maxLen] using hcap
  have hlc := hc.1
  by_cases hl : 1048576 < len
  · clear hc hcap hg
    go_enter Tryd.func4, Tryd.ntmps4
    go_wp2_with fail
    go_ret
    exact ⟨rfl, Below.refl _ _⟩
  · have hc1 := Lib.hid hc
    have hcap1 := Lib.hid hcap
    have hg := Lib.hid hg
    clear hc hcap
    go_enter Tryd.func4, Tryd.ntmps4
    go_wp2_with fail
    refine (drawText_any a len cap w hc1.out hcap1.out).mono ?_
    rintro e w1 ⟨s, hsz, rfl, D1'⟩
    have D1 := Lib.hid D1'
    clear hc1 hcap1 D1'
    obtain ⟨k, key, v, b, h1, h2, h3⟩ := both_from s (by omega)
    have h1 := Lib.hid h1
    have h2 := Lib.hid h2
    have h3 := Lib.hid h3
    go_wp2_with fail
    refine (h1.out _ (hg.out.up D1.out)).mono ?_
    rintro e w2 ⟨rfl, hb2⟩
    have D2 := Lib.hid (D1.out.trans (hb2.mono D1.out.size))
    clear hb2 h1 D1
    go_wp2_with fail
    refine (h2.out _).mono ?_
    rintro e w3 ⟨rfl, hb3⟩
    obtain ⟨a1, a2, a3, _, _, _⟩ := blk3 ((hb3.block w2.heap.size (by simp)).trans (heap_alloc_new w2 _))
    have h23 : Below w2.heap.size w2 w3 := ((Below.refl _ _).alloc (Nat.le_refl _) _).trans (hb3.mono (by simp))
    have z3 : w2.heap.size < w3.heap.size := by have := hb3.size; simp at this; omega
    have D3 := Lib.hid (D2.out.trans (h23.mono D2.out.size))
    clear hb3 h23 h2 D2
    rcases h3.out with ⟨rfl, hv, ht⟩ | ⟨rfl, rfl, rfl, rfl⟩
    · have s1 := ivalid_any k key v
      have s2 := itext_any k key v
      rw [hv] at s1
      rw [ht] at s2
      have s2 := Lib.hid s2
      clear hg h3 hv ht
      go_wp2_with fail
      refine (s1 _).mono ?_
      rintro e w4 ⟨rfl, hb4⟩
      have h34 : Below w3.heap.size w3 w4 := ((Below.refl _ _).alloc (Nat.le_refl _) _).trans (hb4.mono (by simp))
      have a1 := cell_later h34 a1; have a2 := cell_later h34 a2; have a3 := cell_later h34 a3
      have D4 := Lib.hid (D3.out.trans (h34.mono D3.out.size))
      clear hb4 h34 s1 D3
      go_wp2_with fail
      refine (s2.out _).mono ?_
      rintro e w5 ⟨rfl, hb5⟩
      have D5 := Lib.hid (D4.out.trans (hb5.mono D4.out.size))
      clear hb5 s2 D4
      go_wp2_with fail
      go_ret
      exact ⟨rfl, D5.out⟩
    · clear hg h3
      go_wp2_with fail
      go_ret
      exact ⟨rfl, D3.out.alloc D3.out.size _⟩

theorem last_r : ∀ m, m < 6 → (txR m).data.toList.getLast? ≠ some 32 := by decide +kernel
theorem last_p : ∀ m, m < 6 → ∀ n, n < 100 → (txP m n).data.toList.getLast? ≠ some 32 := by decide +kernel
theorem last_a : ∀ m, m < 6 → ∀ n, n < 100 → (txA m n).data.toList.getLast? ≠ some 32 := by decide +kernel
theorem head_r : ∀ m, m < 6 → (txR m).data.toList.head? ≠ some 32 := by decide +kernel
theorem head_p : ∀ m, m < 6 → ∀ n, n < 100 → (txP m n).data.toList.head? ≠ some 32 := by decide +kernel
theorem head_a : ∀ m, m < 6 → ∀ n, n < 100 → (txA m n).data.toList.head? ≠ some 32 := by decide +kernel
theorem last_txt {k key v : Int} (hv : cvB k key v = true) : (txt k key v).data.toList.getLast? ≠ some 32 := by
  rcases cv_nat hv with ⟨m, h1, rfl, rfl, rfl⟩ | ⟨m, n, h1, h2, rfl, rfl, rfl⟩ | ⟨m, n, h1, h2, rfl, rfl, rfl⟩ | ⟨rfl, rfl, rfl⟩
  · rw [txt_r h1]; exact last_r m h1
  · rw [txt_p h1 h2]; exact last_p m h1 n h2
  · rw [txt_a h1 h2]; exact last_a m h1 n h2
  · rw [txt_n]; decide
theorem head_txt {k key v : Int} (hv : cvB k key v = true) : (txt k key v).data.toList.head? ≠ some 32 := by
  rcases cv_nat hv with ⟨m, h1, rfl, rfl, rfl⟩ | ⟨m, n, h1, h2, rfl, rfl, rfl⟩ | ⟨m, n, h1, h2, rfl, rfl, rfl⟩ | ⟨rfl, rfl, rfl⟩
  · rw [txt_r h1]; exact head_r m h1
  · rw [txt_p h1 h2]; exact head_p m h1 n h2
  · rw [txt_a h1 h2]; exact head_a m h1 n h2
  · rw [txt_n]; decide
theorem no_end (s : ByteArray) : ∀ k key v, cvB k key v = true → txt k key v ≠ s ++ sp := fun k key v hv e => by
  refine last_txt hv ?_
  rw [e, ByteArray.data_append, Array.toList_append]
  show (s.data.toList ++ [32]).getLast? = some 32
  simp
theorem no_begin (s : ByteArray) : ∀ k key v, cvB k key v = true → txt k key v ≠ sp ++ s := fun k key v hv e => by
  refine head_txt hv ?_
  rw [e, ByteArray.data_append, Array.toList_append]
  rfl

set_option maxHeartbeats 2000000 in
theorem fnCommandBlank_walk (a : Option Addr) (len cap : Nat) (w : World) (hc : CodeIn w a len cap) (hcap : cap ≤ maxLen) (hg : Gl w) :
    Calls Tryd.prog 5 #[.slice a len cap] w fun e w' => e = .returned (.bool true) ∧ Below w.heap.size w w' := by
  have hm : cap ≤ 9223372036854775807 := by simpa [maxLen] using hcap
  have hlc := hc.1
  by_cases hl : 1048576 < len
  · clear hc hcap hg
    go_enter Tryd.func5, Tryd.ntmps5
    go_wp2_with fail
    go_ret
    exact ⟨rfl, Below.refl _ _⟩
  · have hc1 := Lib.hid hc
    have hcap1 := Lib.hid hcap
    have hg := Lib.hid hg
    clear hc hcap
    go_enter Tryd.func5, Tryd.ntmps5
    go_wp2_with fail
    refine (drawText_any a len cap w hc1.out hcap1.out).mono ?_
    rintro e w1 ⟨s, hsz, rfl, D1'⟩
    have D1 := Lib.hid D1'
    clear hc1 hcap1 D1'
    obtain ⟨k, key, v, b, h1, h2, h3⟩ := both_from s (by omega)
    have h1 := Lib.hid h1
    have h2 := Lib.hid h2
    have h3 := Lib.hid h3
    go_wp2_with fail
    refine (h1.out _ (hg.out.up D1.out)).mono ?_
    rintro e w2 ⟨rfl, hb2⟩
    have D2 := Lib.hid (D1.out.trans (hb2.mono D1.out.size))
    clear hb2 h1 D1
    go_wp2_with fail
    refine (h2.out _).mono ?_
    rintro e w3 ⟨rfl, hb3⟩
    obtain ⟨a1, a2, a3, _, _, _⟩ := blk3 ((hb3.block w2.heap.size (by simp)).trans (heap_alloc_new w2 _))
    have h23 : Below w2.heap.size w2 w3 := ((Below.refl _ _).alloc (Nat.le_refl _) _).trans (hb3.mono (by simp))
    have z3 : w2.heap.size < w3.heap.size := by have := hb3.size; simp at this; omega
    have D3 := Lib.hid (D2.out.trans (h23.mono D2.out.size))
    clear hb3 h23 h2 D2
    rcases h3.out with ⟨rfl, hv, ht⟩ | ⟨rfl, rfl, rfl, rfl⟩
    · have s1 := Lib.hid (fun w hg => ifrom_no (s ++ sp) (no_end s) (by rw [ByteArray.size_append]; have : sp.size = 1 := rfl; omega) w hg)
      have s2 := Lib.hid (fun w hg => ifrom_no (sp ++ s) (no_begin s) (by rw [ByteArray.size_append]; have : sp.size = 1 := rfl; omega) w hg)
      have l1 : ¬ 9223372036854775807 < s.size + 1 := by omega
      have l2 : ¬ 9223372036854775807 < 1 + s.size := by omega
      unfold sp at s1 s2
      clear h3 hv ht
      go_wp2_with fail
      refine (s1.out _ (hg.out.up (D3.out.alloc D3.out.size _))).mono ?_
      rintro e w4 ⟨rfl, hb4⟩
      have h34 : Below w3.heap.size w3 w4 := ((Below.refl _ _).alloc (Nat.le_refl _) _).trans (hb4.mono (by simp))
      have D4 := Lib.hid (D3.out.trans (h34.mono D3.out.size))
      clear hb4 h34 s1 D3 a1 a2 a3
      go_wp2_with fail
      refine (s2.out _ (hg.out.up (D4.out.alloc D4.out.size _))).mono ?_
      rintro e w5 ⟨rfl, hb5⟩
      have h45 : Below w4.heap.size w4 w5 := ((Below.refl _ _).alloc (Nat.le_refl _) _).trans (hb5.mono (by simp))
      have D5 := Lib.hid (D4.out.trans (h45.mono D4.out.size))
      clear hb5 h45 s2 D4
      go_wp2_with fail
      go_ret
      exact ⟨rfl, D5.out.alloc D5.out.size _⟩
    · clear hg h3
      go_wp2_with fail
      go_ret
      exact ⟨rfl, D3.out.alloc D3.out.size _⟩
end Go.Proofs.YthdofjfjefcfpaaDoor
