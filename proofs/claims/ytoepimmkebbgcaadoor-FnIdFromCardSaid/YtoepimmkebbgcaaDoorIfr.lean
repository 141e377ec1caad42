/- IdFrom of the program. -/
import Derived.Test.YtoepimmkebbgcaaDoorIdt
import Derived.Test.YtoepimmkebbgcaaDoorNum
namespace Go.Proofs.YtoepimmkebbgcaaDoor
open Go.RowKit
set_option linter.unusedVariables false
set_option maxRecDepth 100000

/-- What is ahead of the first point, and behind it. -/
def cutX (s : ByteArray) : ByteArray := ⟨(Lib.cut s.data.toList [46]).1.toArray⟩
def cutY (s : ByteArray) : ByteArray := ⟨(Lib.cut s.data.toList [46]).2.1.toArray⟩

theorem cut_parts (s : ByteArray) : (s = cutX s ++ dot ++ cutY s) ∨ cutY s = ⟨#[]⟩ := by
  unfold cutX cutY Lib.cut
  by_cases h : 0 ≤ Lib.index s.data.toList [46]
  · rw [if_pos h]
    rcases Lib.index_spec s.data.toList [46] with ⟨h1, _⟩ | ⟨i, h1, h2, h3, _⟩
    · omega
    · left
      rw [h1]
      have hh := Lib.occAt_head (s := s.data.toList) (sub := [46]) (i := i) (c := 46) (t := []) rfl h3
      apply bytes_ext
      simp only [ByteArray.data_append, Array.toList_append, dot, Int.toNat_natCast, List.length_singleton]
      have hi : i < s.data.toList.length := by
        rcases Nat.lt_or_ge i s.data.toList.length with h | h
        · exact h
        · rw [List.getElem?_eq_none h] at hh; cases hh
      rw [List.getElem?_eq_getElem hi] at hh
      injection hh with hh
      have e : s.data.toList = s.data.toList.take i ++ s.data.toList.drop i := (List.take_append_drop _ _).symm
      rw [List.drop_eq_getElem_cons hi, hh] at e
      rw [List.append_assoc]
      exact e
  · rw [if_neg h]; right; rfl
theorem cutX_size (s : ByteArray) : (cutX s).size ≤ s.size := by
  have : (Lib.cut s.data.toList [46]).1.length ≤ s.data.toList.length := by
    unfold Lib.cut; split
    · simp; omega
    · exact Nat.le_refl _
  show (Lib.cut s.data.toList [46]).1.toArray.size ≤ s.data.size
  rw [List.size_toArray, ← Array.length_toList]; exact this
theorem cutY_size (s : ByteArray) : (cutY s).size ≤ s.size := by
  have : (Lib.cut s.data.toList [46]).2.1.length ≤ s.data.toList.length := by
    unfold Lib.cut; split
    · simp
    · simp
  show (Lib.cut s.data.toList [46]).2.1.toArray.size ≤ s.data.size
  rw [List.size_toArray, ← Array.length_toList]; exact this
theorem numI_empty : numI ⟨#[]⟩ = -1 := by decide +kernel
theorem txI_X {p q : Nat} (hp : p < 5) (hq : q < 51) : cutX (txI p q) = decB p ∧ cutY (txI p q) = decB q := by
  have h := txI_cut p hp q hq
  exact ⟨bytes_ext (by unfold cutX; rw [h]), bytes_ext (by unfold cutY; rw [h])⟩
theorem cut_back {s : ByteArray} (h : idB (numI (cutX s)) (numI (cutY s)) = true) : idTx (numI (cutX s)) (numI (cutY s)) = s := by
  obtain ⟨p, q, e1, e2, hp, hq1, hq⟩ := idB_nat h
  rw [idTx_yes h, e1, e2]
  simp only [Int.toNat_natCast]
  rcases cut_parts s with hs | hs
  · conv => rhs; rw [hs]
    rw [numI_of (by omega) e1, numI_of (by omega) e2]; rfl
  · rw [hs, numI_empty] at e2; omega

/-- strings.Cut at the point. -/
theorem cut_any (s : ByteArray) (hs : s.size ≤ 2000000) (w : World) (hg : Gl w) :
    Calls Tryd.prog 24 #[.string s, .string ⟨#[46]⟩] w fun e w' => (∃ f, e = .returned (.tuple #[.string (cutX s), .string (cutY s), .bool f])) ∧ Below w.heap.size w w' := by
  obtain ⟨m, hm⟩ := hg.mx
  exact (Tryd.strings_Cut s ⟨#[46]⟩ m w (by omega) hm).mono fun e w' ⟨he, n, hw⟩ => ⟨⟨_, he⟩, by subst hw; exact bdrewN (Below.refl _ _) n⟩

/-- What IdFrom answers. -/
def frE (a b : Int) : Ending := if idB a b = true then .returned (.tuple #[.agg #[.int .i64 a, .int .i64 b], .bool true]) else .returned (.tuple #[.agg #[.int .i64 0, .int .i64 0], .bool false])

set_option maxHeartbeats 1000000 in
theorem ifr_any (s : ByteArray) (hs : s.size ≤ 2000000) (w : World) (hg : Gl w) :
    Calls Tryd.prog 11 #[.string s] w fun e w' => e = frE (numI (cutX s)) (numI (cutY s)) ∧ Below w.heap.size w w' := by
  have c1 := fun w hg => cut_any s hs w hg
  have c2 := fun w hg => numberFrom_any (cutX s) (Nat.le_trans (cutX_size s) hs) w hg
  have c3 := fun w hg => numberFrom_any (cutY s) (Nat.le_trans (cutY_size s) hs) w hg
  generalize cutX s = x at c1 c2 ⊢
  generalize cutY s = y at c1 c3 ⊢
  generalize numI x = a at c2 ⊢
  generalize numI y = b at c3 ⊢
  have s1 := ivid_any a b
  have hg := Lib.hid hg
  unfold frE
  generalize idB a b = q at s1 ⊢
  go_enter Tryd.func11, Tryd.ntmps11
  go_wp2_with fail
  refine (c1 _ (hg.out.up ((Below.refl _ _).alloc (Nat.le_refl _) _))).mono ?_
  rintro e w1 ⟨⟨f, rfl⟩, hb⟩
  have A1 := Lib.hid ((hb.block w.heap.size (by simp)).trans (heap_alloc_new w _))
  have D1 := Lib.hid (((Below.refl w.heap.size w).alloc (Nat.le_refl _) (.cells #[.int .i64 0, .int .i64 0] 24)).trans (hb.mono (by simp)))
  have z1 : w.heap.size + 1 ≤ w1.heap.size := by simpa using hb.size
  clear hb c1
  go_wp2_with fail
  refine (c2 _ (hg.out.up D1.out)).mono ?_
  rintro e w2 ⟨rfl, hb⟩
  have A2 := Lib.hid ((hb.block w.heap.size (by omega)).trans A1.out)
  have D2 := Lib.hid (bstep D1.out hb)
  have z2 : w.heap.size + 1 ≤ w2.heap.size := Nat.le_trans z1 hb.size
  clear hb c2 A1 D1 z1
  go_wp2_with fail
  refine (c3 _ (hg.out.up D2.out)).mono ?_
  rintro e w3 ⟨rfl, hb⟩
  have A3 := Lib.hid ((hb.block w.heap.size (by omega)).trans A2.out)
  have D3 := Lib.hid (bstep D2.out hb)
  have z3 : w.heap.size + 1 ≤ w3.heap.size := Nat.le_trans z2 hb.size
  clear hb c3 A2 D2 z2 hg
  go_wp2_with fail
  refine (s1 _).mono ?_
  rintro e w4 ⟨rfl, hb⟩
  have A4 := (hb.block w.heap.size (by simp; omega)).trans ((Below.heap_alloc w3 _ _ (by omega)).trans A3.out)
  have C4 := (hb.block w3.heap.size (by simp)).trans (heap_alloc_new w3 _)
  have D4 := Lib.hid ((D3.out.alloc D3.out.size (.cells #[.int .i64 a, .int .i64 b] 24)).trans (hb.mono (by simp; omega)))
  have z4 : w3.heap.size + 1 ≤ w4.heap.size := by simpa using hb.size
  obtain ⟨a0, a1, f0, f1⟩ := blk2 A4
  obtain ⟨b0, b1, g0, g1⟩ := blk2 C4
  clear hb s1 A3 D3 A4 C4
  have hlt : w.heap.size < w3.heap.size := by omega
  cases q
  · go_wp2_with fail
    exact bodyPost_ret (v := .tuple #[.agg #[.int .i64 0, .int .i64 0], .bool false]) (by simp [results, Tryd.results11, go_sem, a0, a1]) rfl ⟨by simp, by have X := D4.out; clear D4; repeat (first | with_reducible exact X | with_reducible refine Below.setCell ?_ (by first | (simp; done) | (simp; omega)) _)⟩
  · go_wp2_with fail
    exact bodyPost_ret (v := .tuple #[.agg #[.int .i64 a, .int .i64 b], .bool true]) (by simp [results, Tryd.results11, go_sem, a0, a1]) rfl ⟨by simp, by have X := D4.out; clear D4; repeat (first | with_reducible exact X | with_reducible refine Below.setCell ?_ (by first | (simp; done) | (simp; omega)) _)⟩
end Go.Proofs.YtoepimmkebbgcaaDoor
