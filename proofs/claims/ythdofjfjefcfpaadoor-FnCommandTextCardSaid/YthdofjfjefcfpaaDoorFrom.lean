/- CommandFrom of the program: it finds the valid command with a text. -/
import Derived.Test.YthdofjfjefcfpaaDoorCow
import Derived.Test.YthdofjfjefcfpaaDoorIvalid
namespace Go.Proofs.YthdofjfjefcfpaaDoor
open Go.RowKit
set_option linter.unusedVariables false
set_option maxRecDepth 100000

/-- What commandOfWords answers. -/
def cwK : List ByteArray → Option (Int × Int × Int)
  | [a] => if a = ⟨#[110, 111, 110, 101]⟩ then some (3, 0, 0) else none
  | [a, x] => if a = ⟨#[114, 101, 97, 100]⟩ then some (0, numI x, 0) else none
  | [a, x, y] => if a = ⟨#[112, 117, 116]⟩ then some (1, numI x, numI y) else if a = ⟨#[97, 100, 100]⟩ then some (2, numI x, numI y) else none
  | _ => none
def cwE : Option (Int × Int × Int) → Ending
  | some (k, key, v) => .returned (.tuple #[.agg #[.int .i64 k, .int .i64 key, .int .i64 v], .bool true])
  | none => .returned (.tuple #[.agg #[.int .i64 0, .int .i64 0, .int .i64 0], .bool false])

theorem cwK_1 (a : ByteArray) : cwK [a] = if a = ⟨#[110, 111, 110, 101]⟩ then some (3, 0, 0) else none := rfl
theorem cwK_2 (a x : ByteArray) : cwK [a, x] = if a = ⟨#[114, 101, 97, 100]⟩ then some (0, numI x, 0) else none := rfl
theorem cwK_3 (a x y : ByteArray) : cwK [a, x, y] = if a = ⟨#[112, 117, 116]⟩ then some (1, numI x, numI y) else if a = ⟨#[97, 100, 100]⟩ then some (2, numI x, numI y) else none := rfl

theorem joinB_size : ∀ (ws : List ByteArray) (x : ByteArray), x ∈ ws → x.size ≤ (joinB ws).size
  | [], x, h => by cases h
  | [a], x, h => by simp at h; subst h; exact Nat.le_refl _
  | a :: b :: t, x, h => by
    simp only [joinB, ByteArray.size_append]
    rcases List.mem_cons.1 h with rfl | h
    · omega
    · have := joinB_size (b :: t) x h; omega

theorem cow_any (b : Nat) (ws : List ByteArray) (hne : ws ≠ []) (hl : ws.length ≤ 9223372036854775807) (hs : ∀ x ∈ ws, x.size ≤ 2000000) (w : World) (hg : Gl w) (hw : Ws w b ws) :
    Calls Tryd.prog 20 #[.slice (some ⟨b, 0, none⟩) ws.length ws.length] w fun e w' => e = cwE (cwK ws) ∧ Below w.heap.size w w' := by
  match ws, hne, hl, hs, hw with
  | [a], _, _, hs, hw =>
    rw [cwK_1]
    by_cases h : a = ⟨#[110, 111, 110, 101]⟩
    · rw [if_pos h]; subst h; exact cow_none b w hw
    · rw [if_neg h]; exact cow_e1 b a w hw h
  | [a, x], _, _, hs, hw =>
    rw [cwK_2]
    by_cases h : a = ⟨#[114, 101, 97, 100]⟩
    · rw [if_pos h]; subst h; exact cow_read b x (hs x (by simp)) w hg hw
    · rw [if_neg h]; exact cow_e2 b a x w hw h
  | [a, x, y], _, _, hs, hw =>
    rw [cwK_3]
    by_cases h : a = ⟨#[112, 117, 116]⟩
    · rw [if_pos h]; subst h; exact cow_put b x y (hs x (by simp)) (hs y (by simp)) w hg hw
    · rw [if_neg h]
      by_cases h' : a = ⟨#[97, 100, 100]⟩
      · rw [if_pos h']; subst h'; exact cow_add b x y (hs x (by simp)) (hs y (by simp)) w hg hw
      · rw [if_neg h']; exact cow_e3 b a x y w hw h h'
  | a :: x :: y :: z :: t, _, hl, _, _ => exact cow_e4 b _ w ⟨by simp, hl⟩

/-- What Split leaves. -/
def SplitPost (s : ByteArray) (w : World) (e : Ending) (w' : World) : Prop :=
  ∃ b : Nat, e = .returned (.slice (some ⟨b, 0, none⟩) (wordsI s).length (wordsI s).length) ∧ Ws w' b (wordsI s) ∧ Below w.heap.size w w'

theorem split_any (s : ByteArray) (hs : s.size ≤ 2000000) (w : World) (hg : Gl w) :
    Calls Tryd.prog 21 #[.string s, .string sp] w (SplitPost s w) := by
  obtain ⟨m, hm⟩ := hg.mx
  refine (Tryd.strings_Split s sp m w (by omega) hm (by decide)).mono fun e w' ⟨he, hw⟩ => ?_
  have hlen := Lib.splitB_all sp (by decide) 0 _ s rfl
  subst hw
  refine ⟨w.heap.size, ?_, ⟨by simp, _, heap_alloc_new w _⟩, (Below.refl _ _).alloc (Nat.le_refl _) _⟩
  rw [he]
  unfold wordsI
  rw [hlen]

theorem wordsI_len (s : ByteArray) : (wordsI s).length ≤ s.size + 1 := by
  unfold wordsI
  have hlen := Lib.splitB_all sp (by decide) 0 _ s rfl
  have hle := Lib.countB_le sp (by decide) s.size s (Nat.le_refl _)
  omega
theorem wordsI_size (s : ByteArray) : ∀ x ∈ wordsI s, x.size ≤ s.size := fun x hx => by
  have := joinB_size _ x hx
  rwa [join_words] at this

/-- What CommandFrom answers, by what its words name. -/
def fromE : Option (Int × Int × Int) → Ending
  | some (k, key, v) => if cvB k key v then .returned (.tuple #[.agg #[.int .i64 k, .int .i64 key, .int .i64 v], .bool true]) else .returned (.tuple #[.agg #[.int .i64 0, .int .i64 0, .int .i64 0], .bool false])
  | none => .returned (.tuple #[.agg #[.int .i64 0, .int .i64 0, .int .i64 0], .bool false])

set_option maxHeartbeats 1000000 in
theorem from_none (s : ByteArray) (hs : s.size ≤ 2000000) (w : World) (hg : Gl w) (hc : cwK (wordsI s) = none) :
    Calls Tryd.prog 10 #[.string s] w fun e w' => e = .returned (.tuple #[.agg #[.int .i64 0, .int .i64 0, .int .i64 0], .bool false]) ∧ Below w.heap.size w w' := by
  have hg := Lib.hid hg
  go_enter Tryd.func10, Tryd.ntmps10
  go_wp2_with fail
  refine (split_any s hs _ (hg.out.up ((Below.refl _ _).alloc (Nat.le_refl _) _))).mono ?_
  rintro e w1 ⟨b, rfl, hW, hb⟩
  have A1 := Lib.hid ((hb.block w.heap.size (by simp)).trans (heap_alloc_new w _))
  have D1 := Lib.hid (((Below.refl w.heap.size w).alloc (Nat.le_refl _) (.cells #[.int .i64 0, .int .i64 0, .int .i64 0] 24)).trans (hb.mono (by simp)))
  have z1 : w.heap.size < w1.heap.size := by have := hb.size; simp at this; omega
  have hW := Lib.hid hW
  have hc := Lib.hid hc
  clear hb
  go_wp2_with fail
  refine (cow_any b (wordsI s) (splitB_ne _ _) (by have := wordsI_len s; omega) (fun x hx => Nat.le_trans (wordsI_size s x hx) hs) _ (hg.out.up D1.out) hW.out).mono ?_
  rw [hc.out]
  simp only [cwE]
  rintro e w2 ⟨rfl, hb⟩
  have A2 := (hb.block w.heap.size z1).trans A1.out
  obtain ⟨a1, a2, a3, f1, f2, f3⟩ := blk3 A2
  have D2 := Lib.hid (D1.out.trans (hb.mono (by omega)))
  have z2 : w.heap.size < w2.heap.size := by have := hb.size; omega
  clear hb A2 A1 D1 hW hg hc hs
  have D := D2; clear D2
  go_wp2_with fail
  exact bodyPost_ret (v := .tuple #[.agg #[.int .i64 0, .int .i64 0, .int .i64 0], .bool false]) (by simp [results, Tryd.results10, go_sem, a1, a2, a3, z2]) rfl ⟨rfl, by have X := D.out; clear D; repeat (first | with_reducible exact X | with_reducible refine Below.setCell ?_ (by first | (simp; done) | (simp; omega)) _ | with_reducible refine Below.alloc ?_ (by first | (simp; done) | (simp; omega) | omega) _)⟩

set_option maxHeartbeats 1000000 in
theorem from_bad (s : ByteArray) (hs : s.size ≤ 2000000) (w : World) (hg : Gl w) (k key v : Int) (hc : cwK (wordsI s) = some (k, key, v)) (hv : cvB k key v = false) :
    Calls Tryd.prog 10 #[.string s] w fun e w' => e = .returned (.tuple #[.agg #[.int .i64 0, .int .i64 0, .int .i64 0], .bool false]) ∧ Below w.heap.size w w' := by
  have s1 := ivalid_any k key v
  rw [hv] at s1
  clear hv
  have hg := Lib.hid hg
  go_enter Tryd.func10, Tryd.ntmps10
  go_wp2_with fail
  refine (split_any s hs _ (hg.out.up ((Below.refl _ _).alloc (Nat.le_refl _) _))).mono ?_
  rintro e w1 ⟨b, rfl, hW, hb⟩
  have A1 := Lib.hid ((hb.block w.heap.size (by simp)).trans (heap_alloc_new w _))
  have D1 := Lib.hid (((Below.refl w.heap.size w).alloc (Nat.le_refl _) (.cells #[.int .i64 0, .int .i64 0, .int .i64 0] 24)).trans (hb.mono (by simp)))
  have z1 : w.heap.size < w1.heap.size := by have := hb.size; simp at this; omega
  have hW := Lib.hid hW
  have hc := Lib.hid hc
  clear hb
  go_wp2_with fail
  refine (cow_any b (wordsI s) (splitB_ne _ _) (by have := wordsI_len s; omega) (fun x hx => Nat.le_trans (wordsI_size s x hx) hs) _ (hg.out.up D1.out) hW.out).mono ?_
  rw [hc.out]
  simp only [cwE]
  rintro e w2 ⟨rfl, hb⟩
  have A2 := (hb.block w.heap.size z1).trans A1.out
  obtain ⟨a1, a2, a3, f1, f2, f3⟩ := blk3 A2
  have D2 := Lib.hid (D1.out.trans (hb.mono (by omega)))
  have z2 : w.heap.size < w2.heap.size := by have := hb.size; omega
  clear hb A2 A1 D1 hW hg hc hs
  go_wp2_with fail
  refine (s1 _).mono ?_
  rintro e w3 ⟨rfl, hb⟩
  have h23 : Below w2.heap.size w2 w3 := ((Below.refl _ _).alloc (Nat.le_refl _) _).trans (hb.mono (by simp))
  obtain ⟨c1, c2, c3, g1, g2, g3⟩ := blk3 ((hb.block w2.heap.size (by simp)).trans (heap_alloc_new w2 _))
  have a1 := cell_later h23 a1; have a2 := cell_later h23 a2; have a3 := cell_later h23 a3
  have f1 := (h23.frozen (p := ⟨w.heap.size, 0, none⟩) z2).trans f1; have f2 := (h23.frozen (p := ⟨w.heap.size, 1, none⟩) z2).trans f2; have f3 := (h23.frozen (p := ⟨w.heap.size, 2, none⟩) z2).trans f3
  have D := Lib.hid (D2.out.trans (h23.mono (by omega)))
  clear hb h23 s1 D2
  go_wp2_with fail
  exact bodyPost_ret (v := .tuple #[.agg #[.int .i64 0, .int .i64 0, .int .i64 0], .bool false]) (by simp [results, Tryd.results10, go_sem, a1, a2, a3]) rfl ⟨rfl, by have X := D.out; clear D; repeat (first | with_reducible exact X | with_reducible refine Below.setCell ?_ (by first | (simp; done) | (simp; omega)) _ | with_reducible refine Below.alloc ?_ (by first | (simp; done) | (simp; omega) | omega) _)⟩

set_option maxHeartbeats 1000000 in
theorem from_good (s : ByteArray) (hs : s.size ≤ 2000000) (w : World) (hg : Gl w) (k key v : Int) (hc : cwK (wordsI s) = some (k, key, v)) (hv : cvB k key v = true) :
    Calls Tryd.prog 10 #[.string s] w fun e w' => e = .returned (.tuple #[.agg #[.int .i64 k, .int .i64 key, .int .i64 v], .bool true]) ∧ Below w.heap.size w w' := by
  have s1 := ivalid_any k key v
  rw [hv] at s1
  clear hv
  have hg := Lib.hid hg
  go_enter Tryd.func10, Tryd.ntmps10
  go_wp2_with fail
  refine (split_any s hs _ (hg.out.up ((Below.refl _ _).alloc (Nat.le_refl _) _))).mono ?_
  rintro e w1 ⟨b, rfl, hW, hb⟩
  have A1 := Lib.hid ((hb.block w.heap.size (by simp)).trans (heap_alloc_new w _))
  have D1 := Lib.hid (((Below.refl w.heap.size w).alloc (Nat.le_refl _) (.cells #[.int .i64 0, .int .i64 0, .int .i64 0] 24)).trans (hb.mono (by simp)))
  have z1 : w.heap.size < w1.heap.size := by have := hb.size; simp at this; omega
  have hW := Lib.hid hW
  have hc := Lib.hid hc
  clear hb
  go_wp2_with fail
  refine (cow_any b (wordsI s) (splitB_ne _ _) (by have := wordsI_len s; omega) (fun x hx => Nat.le_trans (wordsI_size s x hx) hs) _ (hg.out.up D1.out) hW.out).mono ?_
  rw [hc.out]
  simp only [cwE]
  rintro e w2 ⟨rfl, hb⟩
  have A2 := (hb.block w.heap.size z1).trans A1.out
  obtain ⟨a1, a2, a3, f1, f2, f3⟩ := blk3 A2
  have D2 := Lib.hid (D1.out.trans (hb.mono (by omega)))
  have z2 : w.heap.size < w2.heap.size := by have := hb.size; omega
  clear hb A2 A1 D1 hW hg hc hs
  go_wp2_with fail
  refine (s1 _).mono ?_
  rintro e w3 ⟨rfl, hb⟩
  have h23 : Below w2.heap.size w2 w3 := ((Below.refl _ _).alloc (Nat.le_refl _) _).trans (hb.mono (by simp))
  obtain ⟨c1, c2, c3, g1, g2, g3⟩ := blk3 ((hb.block w2.heap.size (by simp)).trans (heap_alloc_new w2 _))
  have a1 := cell_later h23 a1; have a2 := cell_later h23 a2; have a3 := cell_later h23 a3
  have f1 := (h23.frozen (p := ⟨w.heap.size, 0, none⟩) z2).trans f1; have f2 := (h23.frozen (p := ⟨w.heap.size, 1, none⟩) z2).trans f2; have f3 := (h23.frozen (p := ⟨w.heap.size, 2, none⟩) z2).trans f3
  have D := Lib.hid (D2.out.trans (h23.mono (by omega)))
  clear hb h23 s1 D2
  go_wp2_with fail
  exact bodyPost_ret (v := .tuple #[.agg #[.int .i64 k, .int .i64 key, .int .i64 v], .bool true]) (by simp [results, Tryd.results10, go_sem, a1, a2, a3]) rfl ⟨rfl, by have X := D.out; clear D; repeat (first | with_reducible exact X | with_reducible refine Below.setCell ?_ (by first | (simp; done) | (simp; omega)) _ | with_reducible refine Below.alloc ?_ (by first | (simp; done) | (simp; omega) | omega) _)⟩

theorem app3 (a b c : ByteArray) : a ++ b ++ c = a ++ (b ++ c) := ByteArray.append_assoc

/-- What words name a valid command are those of its text. -/
theorem cwK_txt {s : ByteArray} {k key v : Int} (h : cwK (wordsI s) = some (k, key, v)) (hv : cvB k key v = true) : txt k key v = s := by
  have hj := join_words s
  generalize wordsI s = ws at h hj
  match ws, h, hj with
  | [], h, _ => simp [cwK] at h
  | [a], h, hj =>
    rw [cwK_1] at h
    split at h
    · rename_i ha
      simp at h
      obtain ⟨rfl, rfl, rfl⟩ := h
      rw [txt_n, ← hj, ha]; rfl
    · cases h
  | [a, x], h, hj =>
    rw [cwK_2] at h
    split at h
    · rename_i ha
      simp at h
      obtain ⟨rfl, hx, rfl⟩ := h
      rcases cv_nat hv with ⟨m, h1, _, rfl, _⟩ | ⟨m, n, h1, h2, h3, _⟩ | ⟨m, n, h1, h2, h3, _⟩ | ⟨h3, _⟩
      · rw [txt_r h1, ← hj, numI_of (by omega) hx, ha]; rfl
      · cases h3
      · cases h3
      · cases h3
    · cases h
  | [a, x, y], h, hj =>
    rw [cwK_3] at h
    split at h
    · rename_i ha
      simp at h
      obtain ⟨rfl, hx, hy⟩ := h
      rcases cv_nat hv with ⟨m, h1, h3, _⟩ | ⟨m, n, h1, h2, _, rfl, rfl⟩ | ⟨m, n, h1, h2, h3, _⟩ | ⟨h3, _⟩
      · cases h3
      · rw [txt_p h1 h2, ← hj, numI_of (by omega) hx, numI_of h2 hy, ha]
        simp only [joinB, txP, ByteArray.append_assoc]
        rw [← ByteArray.append_assoc]; rfl
      · cases h3
      · cases h3
    · split at h
      · rename_i ha
        simp at h
        obtain ⟨rfl, hx, hy⟩ := h
        rcases cv_nat hv with ⟨m, h1, h3, _⟩ | ⟨m, n, h1, h2, h3, _⟩ | ⟨m, n, h1, h2, _, rfl, rfl⟩ | ⟨h3, _⟩
        · cases h3
        · cases h3
        · rw [txt_a h1 h2, ← hj, numI_of (by omega) hx, numI_of h2 hy, ha]
          simp only [joinB, txA, ByteArray.append_assoc]
          rw [← ByteArray.append_assoc]; rfl
        · cases h3
      · cases h
  | a :: x :: y :: z :: t, h, _ => simp [cwK] at h

/-- .. and the words of a text name its command. -/
theorem txt_cwK {k key v : Int} (hv : cvB k key v = true) : cwK (wordsI (txt k key v)) = some (k, key, v) := by
  rcases cv_nat hv with ⟨m, h1, rfl, rfl, rfl⟩ | ⟨m, n, h1, h2, rfl, rfl, rfl⟩ | ⟨m, n, h1, h2, rfl, rfl, rfl⟩ | ⟨rfl, rfl, rfl⟩
  · rw [txt_r h1, words_r m h1]; rw [cwK_2, if_pos rfl, numI_dec m (by omega)]
  · rw [txt_p h1 h2, words_p m h1 n h2]; rw [cwK_3, if_pos rfl, numI_dec m (by omega), numI_dec n h2]
  · rw [txt_a h1 h2, words_a m h1 n h2]; rw [cwK_3, if_neg (by decide), if_pos rfl, numI_dec m (by omega), numI_dec n h2]
  · rw [txt_n, words_n]; rfl

theorem ifrom_yes (k key v : Int) (hv : cvB k key v = true) (hs : (txt k key v).size ≤ 2000000) (w : World) (hg : Gl w) :
    Calls Tryd.prog 10 #[.string (txt k key v)] w fun e w' => e = .returned (.tuple #[.agg #[.int .i64 k, .int .i64 key, .int .i64 v], .bool true]) ∧ Below w.heap.size w w' :=
  from_good _ hs w hg k key v (txt_cwK hv) hv

theorem ifrom_no (s : ByteArray) (h : ∀ k key v, cvB k key v = true → txt k key v ≠ s) (hs : s.size ≤ 2000000) (w : World) (hg : Gl w) :
    Calls Tryd.prog 10 #[.string s] w fun e w' => e = .returned (.tuple #[.agg #[.int .i64 0, .int .i64 0, .int .i64 0], .bool false]) ∧ Below w.heap.size w w' := by
  cases hc : cwK (wordsI s) with
  | none => exact from_none s hs w hg hc
  | some c =>
    obtain ⟨k, key, v⟩ := c
    by_cases hv : cvB k key v = true
    · exact absurd (cwK_txt hc hv) (h k key v hv)
    · exact from_bad s hs w hg k key v hc (by simpa using hv)
end Go.Proofs.YthdofjfjefcfpaaDoor
