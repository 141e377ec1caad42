/- CommandFrom of the model. -/
import Derived.Test.YthdofjfjefcfpaaDoorLw
namespace Go.Proofs.YthdofjfjefcfpaaDoor
open Go.RowKit
set_option linter.unusedVariables false
set_option maxRecDepth 100000

def agE (c : Int × Int × Int) : Ending := .returned (.agg #[.int .i64 c.1, .int .i64 c.2.1, .int .i64 c.2.2])

theorem lw_any (b cap : Nat) (ws : List ByteArray) (hne : ws ≠ []) (hl : ws.length ≤ 9223372036854775807) (hcap : ws.length ≤ cap) (hs : ∀ x ∈ ws, x.size ≤ 2000000) (w : World) (hw : Wc w b ws) :
    Calls Tryd.prog 24 #[.slice (some ⟨b, 0, none⟩) ws.length cap] w fun e w' => e = agE (lwK ws) ∧ Below w.heap.size w w' := by
  match ws, hne, hl, hcap, hs, hw with
  | [a], _, _, hcap, hs, hw => exact lw_one b cap hcap a w hw
  | [a, x], _, _, hcap, hs, hw =>
    rw [lwK_2]
    by_cases h : a = ⟨#[114, 101, 97, 100]⟩
    · rw [if_pos h]; subst h; exact lw_read b cap hcap x (hs x (by simp)) w hw
    · rw [if_neg h]; exact lw_two b cap hcap a x w hw h
  | [a, x, y], _, _, hcap, hs, hw =>
    rw [lwK_3]
    by_cases h : a = ⟨#[112, 117, 116]⟩
    · rw [if_pos h]; subst h; exact lw_put b cap hcap x y (hs x (by simp)) (hs y (by simp)) w hw
    · rw [if_neg h]
      by_cases h' : a = ⟨#[97, 100, 100]⟩
      · rw [if_pos h']; subst h'; exact lw_add b cap hcap x y (hs x (by simp)) (hs y (by simp)) w hw
      · rw [if_neg h']; exact lw_three b cap hcap a x y w hw h h'
  | a :: x :: y :: z :: t, _, hl, hcap, _, hw => exact lw_more b cap _ ⟨by simp, hl⟩ hcap a w hw.1 (hw.2 0 a rfl)

/-- What l1Cut leaves, for what follows. -/
def CutPost2 (s : ByteArray) (w : World) (e : Ending) (w' : World) : Prop :=
  ∃ b cap : Nat, e = .returned (.slice (some ⟨b, 0, none⟩) (wordsS s).length cap) ∧ (wordsS s).length ≤ cap ∧ Wc w' b (wordsS s) ∧ Below w.heap.size w w'
theorem cut2_any (s : ByteArray) (hs : s.size ≤ 2000000) (w : World) :
    Calls Tryd.prog 25 #[.string s] w (CutPost2 s w) := by
  refine (cut_any s hs w).mono fun e w' ⟨v, he, hown, hb⟩ => ?_
  have hne : (wordsS s).length ≠ 0 := by
    intro h; exact cutF_ne _ _ _ _ (List.eq_nil_of_length_eq_zero h)
  rcases hown.2 with ⟨_, h0⟩ | ⟨g, cap, cur, hv, hg, hh, hn, _, _, _⟩
  · exact absurd h0 hne
  · subst hv
    refine ⟨g, cap, he, hn, ⟨(Array.getElem?_eq_some_iff.1 hh).1, fun i x hx => ?_⟩, hb⟩
    have := hown.cells (g := g) rfl i (.string x) (by simpa using hx)
    have e2 : (⟨g, 0, none⟩ : Addr).add i = ⟨g, i, none⟩ := by unfold Addr.add; split <;> simp_all
    rwa [e2] at this

theorem wordsS_len (s : ByteArray) : (wordsS s).length ≤ s.size + 1 := cutF_len _ _ _ _
theorem wordsS_size (s : ByteArray) : ∀ x ∈ wordsS s, x.size ≤ s.size := fun x hx => cutF_size _ _ _ _ x hx

theorem txt_lwK {k key v : Int} (hv : cvB k key v = true) : lwK (wordsS (txt k key v)) = (k, key, v) := by
  rcases cv_nat hv with ⟨m, h1, rfl, rfl, rfl⟩ | ⟨m, n, h1, h2, rfl, rfl, rfl⟩ | ⟨m, n, h1, h2, rfl, rfl, rfl⟩ | ⟨rfl, rfl, rfl⟩
  · rw [txt_r h1, wordsS_r m h1, lwK_2, if_pos rfl, numS_dec m (by omega)]
  · rw [txt_p h1 h2, wordsS_p m h1 n h2, lwK_3, if_pos rfl, numS_dec m (by omega), numS_dec n h2]
  · rw [txt_a h1 h2, wordsS_a m h1 n h2, lwK_3, if_neg (by decide), if_pos rfl, numS_dec m (by omega), numS_dec n h2]
  · rw [txt_n, wordsS_n]; rfl

theorem app_ne {a b : ByteArray} (h : a ≠ ⟨#[]⟩) : a ++ b ≠ ⟨#[]⟩ := fun e => by
  have h2 : (a ++ b).size = 0 := by rw [e]; rfl
  rw [ByteArray.size_append] at h2
  exact h (ByteArray.size_eq_zero_iff.1 (by omega))
theorem txt_ne {k key v : Int} (hv : cvB k key v = true) : txt k key v ≠ ⟨#[]⟩ := by
  rcases cv_nat hv with ⟨m, h1, rfl, rfl, rfl⟩ | ⟨m, n, h1, h2, rfl, rfl, rfl⟩ | ⟨m, n, h1, h2, rfl, rfl, rfl⟩ | ⟨rfl, rfl, rfl⟩
  · rw [txt_r h1]; exact app_ne (by decide)
  · rw [txt_p h1 h2]; unfold txP; rw [ByteArray.append_assoc, ByteArray.append_assoc]; exact app_ne (by decide)
  · rw [txt_a h1 h2]; unfold txA; rw [ByteArray.append_assoc, ByteArray.append_assoc]; exact app_ne (by decide)
  · rw [txt_n]; decide
theorem txt_size {k key v : Int} (hv : cvB k key v = true) : (txt k key v).size ≤ 20 := by
  rcases cv_nat hv with ⟨m, h1, rfl, rfl, rfl⟩ | ⟨m, n, h1, h2, rfl, rfl, rfl⟩ | ⟨m, n, h1, h2, rfl, rfl, rfl⟩ | ⟨rfl, rfl, rfl⟩
  · rw [txt_r h1]; unfold txR; have := decB_size m; simp only [ByteArray.size_append]; have : (⟨#[114, 101, 97, 100, 32]⟩ : ByteArray).size = 5 := rfl; omega
  · rw [txt_p h1 h2]; unfold txP; have := decB_size m; have := decB_size n; simp only [ByteArray.size_append]; have : (⟨#[112, 117, 116, 32]⟩ : ByteArray).size = 4 := rfl; have : (⟨#[32]⟩ : ByteArray).size = 1 := rfl; omega
  · rw [txt_a h1 h2]; unfold txA; have := decB_size m; have := decB_size n; simp only [ByteArray.size_append]; have : (⟨#[97, 100, 100, 32]⟩ : ByteArray).size = 4 := rfl; have : (⟨#[32]⟩ : ByteArray).size = 1 := rfl; omega
  · rw [txt_n]; decide

set_option maxHeartbeats 1000000 in
theorem sfrom_good (s : ByteArray) (hs : s.size ≤ 2000000) (w : World) (k key v : Int) (hc : lwK (wordsS s) = (k, key, v)) (ht : txt k key v = s) (hn : ¬ s = ⟨#[]⟩) :
    Calls Tryd.prog 12 #[.string s] w fun e w' => e = .returned (.tuple #[.agg #[.int .i64 k, .int .i64 key, .int .i64 v], .bool true]) ∧ Below w.heap.size w w' := by
  have s1 := stext_any k key v
  rw [ht] at s1
  have q1 := lit_ne (l := []) hn
  have q2 : s.toList.isEmpty = false := by
    rw [ByteArray.toList_eq]
    have : s.data.toList ≠ [] := fun h => hn (bytes_ext (by simpa using h))
    simpa using this
  have q3 : ¬ s.toList = [] := by rw [ByteArray.toList_eq]; exact fun h => hn (bytes_ext (by simpa using h))
  have hc := Lib.hid hc
  clear ht hn
  go_enter Tryd.func12, Tryd.ntmps12
  go_wp2_with fail
  refine (cut2_any s hs _).mono ?_
  rintro e w1 ⟨b, cap, rfl, hcap, hW, hb⟩
  have A1 := Lib.hid ((hb.block w.heap.size (by simp)).trans (heap_alloc_new w _))
  have D1 := Lib.hid (((Below.refl w.heap.size w).alloc (Nat.le_refl _) (.cells #[.int .i64 0, .int .i64 0, .int .i64 0] 24)).trans (hb.mono (by simp)))
  have z1 : w.heap.size < w1.heap.size := by have := hb.size; simp at this; omega
  have hW := Lib.hid hW
  have hcap := Lib.hid hcap
  clear hb
  go_wp2_with fail
  refine (lw_any b cap (wordsS s) (cutF_ne _ _ _ _) (by have := wordsS_len s; omega) hcap.out (fun x hx => Nat.le_trans (wordsS_size s x hx) hs) _ hW.out).mono ?_
  rw [hc.out]
  simp only [agE]
  rintro e w2 ⟨rfl, hb⟩
  have A2 := Lib.hid ((hb.block w.heap.size z1).trans A1.out)
  have D2 := Lib.hid (D1.out.trans (hb.mono (by omega)))
  have z2 : w.heap.size < w2.heap.size := by have := hb.size; omega
  clear hb A1 D1 hW hc hs hcap
  go_wp2_with fail
  refine (s1 _).mono ?_
  rintro e w3 ⟨rfl, hb⟩
  have h23 : Below w2.heap.size w2 w3 := ((Below.refl _ _).alloc (Nat.le_refl _) _).trans (hb.mono (by simp))
  obtain ⟨c1, c2, c3, g1, g2, g3⟩ := blk3 ((hb.block w2.heap.size (by simp)).trans (heap_alloc_new w2 _))
  obtain ⟨a1, a2, a3, f1, f2, f3⟩ := blk3 ((h23.block w.heap.size z2).trans A2.out)
  have D := Lib.hid (D2.out.trans (h23.mono (by omega)))
  clear hb h23 s1 D2 A2
  go_wp2_with fail
  exact bodyPost_ret (v := .tuple #[.agg #[.int .i64 k, .int .i64 key, .int .i64 v], .bool true]) (by simp [results, Tryd.results12, go_sem, a1, a2, a3]) rfl ⟨rfl, by have X := D.out; clear D; repeat (first | with_reducible exact X | with_reducible refine Below.setCell ?_ (by first | (simp; done) | (simp; omega)) _ | with_reducible refine Below.alloc ?_ (by first | (simp; done) | (simp; omega) | omega) _)⟩

set_option maxHeartbeats 1000000 in
theorem sfrom_empty (w : World) (k key v : Int) (hc : lwK (wordsS ⟨#[]⟩) = (k, key, v)) (ht : txt k key v = ⟨#[]⟩) :
    Calls Tryd.prog 12 #[.string ⟨#[]⟩] w fun e w' => e = .returned (.tuple #[.agg #[.int .i64 0, .int .i64 0, .int .i64 0], .bool false]) ∧ Below w.heap.size w w' := by
  have s1 := stext_any k key v
  rw [ht] at s1
  obtain ⟨s, hse⟩ : ∃ s : ByteArray, s = ⟨#[]⟩ := ⟨_, rfl⟩
  have hs : s.size ≤ 2000000 := by rw [hse]; decide
  rw [← hse] at hc s1 ⊢
  have q3 : s.toList = [] := by rw [hse, ByteArray.toList_eq]
  have q4 : s.toList.isEmpty = true := by simp [q3]
  have hc := Lib.hid hc
  clear ht hse
  go_enter Tryd.func12, Tryd.ntmps12
  go_wp2_with fail
  refine (cut2_any s hs _).mono ?_
  rintro e w1 ⟨b, cap, rfl, hcap, hW, hb⟩
  have A1 := Lib.hid ((hb.block w.heap.size (by simp)).trans (heap_alloc_new w _))
  have D1 := Lib.hid (((Below.refl w.heap.size w).alloc (Nat.le_refl _) (.cells #[.int .i64 0, .int .i64 0, .int .i64 0] 24)).trans (hb.mono (by simp)))
  have z1 : w.heap.size < w1.heap.size := by have := hb.size; simp at this; omega
  have hW := Lib.hid hW
  have hcap := Lib.hid hcap
  clear hb
  go_wp2_with fail
  refine (lw_any b cap (wordsS s) (cutF_ne _ _ _ _) (by have := wordsS_len s; omega) hcap.out (fun x hx => Nat.le_trans (wordsS_size s x hx) hs) _ hW.out).mono ?_
  rw [hc.out]
  simp only [agE]
  rintro e w2 ⟨rfl, hb⟩
  have A2 := Lib.hid ((hb.block w.heap.size z1).trans A1.out)
  have D2 := Lib.hid (D1.out.trans (hb.mono (by omega)))
  have z2 : w.heap.size < w2.heap.size := by have := hb.size; omega
  clear hb A1 D1 hW hc hs hcap
  go_wp2_with fail
  refine (s1 _).mono ?_
  rintro e w3 ⟨rfl, hb⟩
  have h23 : Below w2.heap.size w2 w3 := ((Below.refl _ _).alloc (Nat.le_refl _) _).trans (hb.mono (by simp))
  obtain ⟨c1, c2, c3, g1, g2, g3⟩ := blk3 ((hb.block w2.heap.size (by simp)).trans (heap_alloc_new w2 _))
  obtain ⟨a1, a2, a3, f1, f2, f3⟩ := blk3 ((h23.block w.heap.size z2).trans A2.out)
  have D := Lib.hid (D2.out.trans (h23.mono (by omega)))
  clear hb h23 s1 D2 A2
  go_wp2_with fail
  exact bodyPost_ret (v := .tuple #[.agg #[.int .i64 0, .int .i64 0, .int .i64 0], .bool false]) (by simp [results, Tryd.results12, go_sem, a1, a2, a3]) rfl ⟨rfl, by have X := D.out; clear D; repeat (first | with_reducible exact X | with_reducible refine Below.setCell ?_ (by first | (simp; done) | (simp; omega)) _ | with_reducible refine Below.alloc ?_ (by first | (simp; done) | (simp; omega) | omega) _)⟩

set_option maxHeartbeats 1000000 in
theorem sfrom_bad (s : ByteArray) (hs : s.size ≤ 2000000) (w : World) (k key v : Int) (hc : lwK (wordsS s) = (k, key, v)) (ht : ¬ txt k key v = s) :
    Calls Tryd.prog 12 #[.string s] w fun e w' => e = .returned (.tuple #[.agg #[.int .i64 0, .int .i64 0, .int .i64 0], .bool false]) ∧ Below w.heap.size w w' := by
  have s1 := stext_any k key v
  have q1 := bytes_ne ht
  have q2 := bytes_ne' ht
  generalize txt k key v = t at s1 q1 q2
  have hc := Lib.hid hc
  clear ht
  go_enter Tryd.func12, Tryd.ntmps12
  go_wp2_with fail
  refine (cut2_any s hs _).mono ?_
  rintro e w1 ⟨b, cap, rfl, hcap, hW, hb⟩
  have A1 := Lib.hid ((hb.block w.heap.size (by simp)).trans (heap_alloc_new w _))
  have D1 := Lib.hid (((Below.refl w.heap.size w).alloc (Nat.le_refl _) (.cells #[.int .i64 0, .int .i64 0, .int .i64 0] 24)).trans (hb.mono (by simp)))
  have z1 : w.heap.size < w1.heap.size := by have := hb.size; simp at this; omega
  have hW := Lib.hid hW
  have hcap := Lib.hid hcap
  clear hb
  go_wp2_with fail
  refine (lw_any b cap (wordsS s) (cutF_ne _ _ _ _) (by have := wordsS_len s; omega) hcap.out (fun x hx => Nat.le_trans (wordsS_size s x hx) hs) _ hW.out).mono ?_
  rw [hc.out]
  simp only [agE]
  rintro e w2 ⟨rfl, hb⟩
  have A2 := Lib.hid ((hb.block w.heap.size z1).trans A1.out)
  have D2 := Lib.hid (D1.out.trans (hb.mono (by omega)))
  have z2 : w.heap.size < w2.heap.size := by have := hb.size; omega
  clear hb A1 D1 hW hc hs hcap
  go_wp2_with fail
  refine (s1 _).mono ?_
  rintro e w3 ⟨rfl, hb⟩
  have h23 : Below w2.heap.size w2 w3 := ((Below.refl _ _).alloc (Nat.le_refl _) _).trans (hb.mono (by simp))
  obtain ⟨c1, c2, c3, g1, g2, g3⟩ := blk3 ((hb.block w2.heap.size (by simp)).trans (heap_alloc_new w2 _))
  obtain ⟨a1, a2, a3, f1, f2, f3⟩ := blk3 ((h23.block w.heap.size z2).trans A2.out)
  have D := Lib.hid (D2.out.trans (h23.mono (by omega)))
  clear hb h23 s1 D2 A2
  go_wp2_with fail
  exact bodyPost_ret (v := .tuple #[.agg #[.int .i64 0, .int .i64 0, .int .i64 0], .bool false]) (by simp [results, Tryd.results12, go_sem, a1, a2, a3]) rfl ⟨rfl, by have X := D.out; clear D; repeat (first | with_reducible exact X | with_reducible refine Below.setCell ?_ (by first | (simp; done) | (simp; omega)) _ | with_reducible refine Below.alloc ?_ (by first | (simp; done) | (simp; omega) | omega) _)⟩

theorem sfrom_yes (k key v : Int) (hv : cvB k key v = true) (w : World) :
    Calls Tryd.prog 12 #[.string (txt k key v)] w fun e w' => e = .returned (.tuple #[.agg #[.int .i64 k, .int .i64 key, .int .i64 v], .bool true]) ∧ Below w.heap.size w w' :=
  sfrom_good _ (by have := txt_size hv; omega) w k key v (txt_lwK hv) rfl (txt_ne hv)

theorem sfrom_no (s : ByteArray) (h : ∀ k key v, cvB k key v = true → txt k key v ≠ s) (hs : s.size ≤ 2000000) (w : World) :
    Calls Tryd.prog 12 #[.string s] w fun e w' => e = .returned (.tuple #[.agg #[.int .i64 0, .int .i64 0, .int .i64 0], .bool false]) ∧ Below w.heap.size w w' := by
  obtain ⟨k, key, v, hc⟩ : ∃ k key v, lwK (wordsS s) = (k, key, v) := ⟨_, _, _, rfl⟩
  by_cases ht : txt k key v = s
  · have hv : ¬ cvB k key v = true := fun hv => h k key v hv ht
    have he : txt k key v = ⟨#[]⟩ := by unfold txt; rw [if_neg hv]
    rw [he] at ht
    subst ht
    exact sfrom_empty w k key v hc he
  · exact sfrom_bad s hs w k key v hc ht
end Go.Proofs.YthdofjfjefcfpaaDoor
