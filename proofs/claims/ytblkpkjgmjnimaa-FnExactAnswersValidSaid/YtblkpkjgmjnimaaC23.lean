/- Texts laid together. -/
import Derived.Test.YtblkpkjgmjnimaaC01
import Derived.Test.YtblkpkjgmjnimaaC02
import Derived.Test.YtblkpkjgmjnimaaC14
import Derived.Test.YtblkpkjgmjnimaaC22
import Derived.Deep.RegionHeld3
import Derived.Test.YtblkpkjgmjnimaaC25
/- The laws' sizes of slices of ids. -/
namespace Go.Proofs.Ytblkpkjgmjnimaa
open Go.RowKit
set_option linter.unusedVariables false

theorem szP_any (a : Option Addr) (n cap : Nat) (k : Int) (w : World) (hk : k = 1048576) (h : n ≤ 9223372036854775807) :
    Calls Try.prog 43 #[.slice a n cap, .int .i64 k] w fun e w' => e = .returned (.int .i64 (if 1048576 < n then -1 else 1048576 - n)) ∧ Below w.heap.size w w' := by
  subst hk
  by_cases hl : 1048576 < n
  · rw [if_pos hl]
    go_enter Try.func43, Try.ntmps43
    go_wp2_with fail
    go_ret
    exact ⟨rfl, Below.refl _ _⟩
  · rw [if_neg hl]
    go_enter Try.func43, Try.ntmps43
    go_wp2_with fail
    go_ret
    exact ⟨rfl, Below.refl _ _⟩

/-- .. with whatever is left. -/
theorem szP_gen (a : Option Addr) (n cap : Nat) (k : Int) (w : World) (hk : 0 ≤ k) (hk2 : k ≤ 1048576) (h : n ≤ 9223372036854775807) :
    Calls Try.prog 43 #[.slice a n cap, .int .i64 k] w fun e w' => e = .returned (.int .i64 (if k < n then -1 else k - n)) ∧ Below w.heap.size w w' := by
  by_cases hl : k < n
  · rw [if_pos hl]
    go_enter Try.func43, Try.ntmps43
    go_wp2_with fail
    go_ret
    exact ⟨rfl, Below.refl _ _⟩
  · rw [if_neg hl]
    go_enter Try.func43, Try.ntmps43
    go_wp2_with fail
    go_ret
    exact ⟨rfl, Below.refl _ _⟩
end Go.Proofs.Ytblkpkjgmjnimaa

/- The laws' size of an entry. -/
namespace Go.Proofs.Ytblkpkjgmjnimaa
open Go.RowKit
set_option linter.unusedVariables false

set_option maxRecDepth 100000 in
theorem szE_any (p r bal st k key v s : Int) (ua : Option Addr) (un uc : Nat) (z : Int) (w : World) (hk : 0 ≤ z) (hk2 : z ≤ 1048576) (h : un ≤ 9223372036854775807) :
    Calls Try.prog 33 #[.agg #[.int .i64 p, .int .i64 r, .int .i64 bal, .int .i64 st, .int .i64 k, .int .i64 key, .int .i64 v, .int .i64 s, .slice ua un uc], .int .i64 z] w fun e w' => e = .returned (.int .i64 (if z < un then -1 else z - un)) ∧ Below w.heap.size w w' := by
  have sz := fun w => szP_gen ua un uc z w hk hk2 h
  by_cases hl : z < un
  · rw [if_pos hl] at sz ⊢
    go_enter Try.func33, Try.ntmps33
    go_wp2_with fail
    refine (sz _).mono ?_
    rintro e w1 ⟨rfl, hb⟩
    have D1 := Lib.hid (((Below.refl w.heap.size w).alloc (Nat.le_refl _) (.cells #[.int .i64 p, .int .i64 r, .int .i64 bal, .int .i64 st, .int .i64 k, .int .i64 key, .int .i64 v, .int .i64 s, .slice ua un uc] 59)).trans (hb.mono (by simp)))
    clear hb sz
    go_wp2_with fail
    go_ret
    exact ⟨rfl, D1.out⟩
  · rw [if_neg hl] at sz ⊢
    obtain ⟨y, hz⟩ : ∃ y, z - (un : Int) = y := ⟨_, rfl⟩
    rw [hz] at sz ⊢
    have hz0 : ¬ y < 0 := by omega
    go_enter Try.func33, Try.ntmps33
    go_wp2_with fail
    refine (sz _).mono ?_
    rintro e w1 ⟨rfl, hb⟩
    have D1 := Lib.hid (((Below.refl w.heap.size w).alloc (Nat.le_refl _) (.cells #[.int .i64 p, .int .i64 r, .int .i64 bal, .int .i64 st, .int .i64 k, .int .i64 key, .int .i64 v, .int .i64 s, .slice ua un uc] 59)).trans (hb.mono (by simp)))
    clear hb sz
    go_wp2_with fail
    go_ret
    exact ⟨rfl, D1.out⟩
end Go.Proofs.Ytblkpkjgmjnimaa

/- The laws' sizes, copies and comparisons of answers. -/
namespace Go.Proofs.Ytblkpkjgmjnimaa
open Go.RowKit
set_option linter.unusedVariables false

theorem elev_freeX {w : World} {b : Nat} {x0 x1 x2 x3 x4 x5 x6 x7 x8 x9 x10 : Value} {t : TypeId} (h : w.heap[b]? = some (.cells #[x0, x1, x2, x3, x4, x5, x6, x7, x8, x9, x10] t (0, 0))) :
    (w.cell? ⟨b, 0, none⟩ = some x0 ∧ w.cell? ⟨b, 1, none⟩ = some x1 ∧ w.cell? ⟨b, 2, none⟩ = some x2 ∧ w.cell? ⟨b, 3, none⟩ = some x3 ∧ w.cell? ⟨b, 4, none⟩ = some x4 ∧ w.cell? ⟨b, 5, none⟩ = some x5 ∧ w.cell? ⟨b, 6, none⟩ = some x6 ∧ w.cell? ⟨b, 7, none⟩ = some x7 ∧ w.cell? ⟨b, 8, none⟩ = some x8 ∧ w.cell? ⟨b, 9, none⟩ = some x9 ∧ w.cell? ⟨b, 10, none⟩ = some x10) ∧ (w.frozen? ⟨b, 0, none⟩ = false ∧ w.frozen? ⟨b, 1, none⟩ = false ∧ w.frozen? ⟨b, 2, none⟩ = false ∧ w.frozen? ⟨b, 3, none⟩ = false ∧ w.frozen? ⟨b, 4, none⟩ = false ∧ w.frozen? ⟨b, 5, none⟩ = false ∧ w.frozen? ⟨b, 6, none⟩ = false ∧ w.frozen? ⟨b, 7, none⟩ = false ∧ w.frozen? ⟨b, 8, none⟩ = false ∧ w.frozen? ⟨b, 9, none⟩ = false ∧ w.frozen? ⟨b, 10, none⟩ = false) ∧ b < w.heap.size :=
  ⟨(elev_all h).1, ⟨nine_free h 0, nine_free h 1, nine_free h 2, nine_free h 3, nine_free h 4, nine_free h 5, nine_free h 6, nine_free h 7, nine_free h 8, nine_free h 9, nine_free h 10⟩, lt_of_heap h⟩
set_option maxRecDepth 100000 in
theorem szA_any (x : En) (fr : Int) (kn : Bool) (ua : Option Addr) (un uc : Nat) (z : Int) (w : World) (hk : 0 ≤ z) (hk2 : z ≤ 1048576) (h : un ≤ 9223372036854775807) :
    Calls Try.prog 21 #[.agg #[.int .i64 fr, .bool kn, .int .i64 x.id.1, .int .i64 x.id.2, .int .i64 x.bal, .int .i64 x.st, .int .i64 x.k, .int .i64 x.key, .int .i64 x.v, .int .i64 x.seq, .slice ua un uc], .int .i64 z] w fun e w' => e = .returned (.int .i64 (if z < un then -1 else z - un)) ∧ Below w.heap.size w w' := by
  have sz := fun W => szE_any x.id.1 x.id.2 x.bal x.st x.k x.key x.v x.seq ua un uc z W hk hk2 h
  have A := Lib.hid (heap_alloc_new w (.cells #[.int .i64 fr, .bool kn, .int .i64 x.id.1, .int .i64 x.id.2, .int .i64 x.bal, .int .i64 x.st, .int .i64 x.k, .int .i64 x.key, .int .i64 x.v, .int .i64 x.seq, .slice ua un uc] 61))
  have D := Lib.hid ((Below.refl w.heap.size w).alloc (Nat.le_refl _) (.cells #[.int .i64 fr, .bool kn, .int .i64 x.id.1, .int .i64 x.id.2, .int .i64 x.bal, .int .i64 x.st, .int .i64 x.k, .int .i64 x.key, .int .i64 x.v, .int .i64 x.seq, .slice ua un uc] 61))
  by_cases hl : z < un
  · rw [if_pos hl] at sz ⊢
    go_enter Try.func21, Try.ntmps21
    go_upto_region 1 with fail
    generalize w.alloc (.cells #[.int .i64 fr, .bool kn, .int .i64 x.id.1, .int .i64 x.id.2, .int .i64 x.bal, .int .i64 x.st, .int .i64 x.k, .int .i64 x.key, .int .i64 x.v, .int .i64 x.seq, .slice ua un uc] 61) = w1 at A D ⊢
    obtain ⟨⟨y0, y1, y2, y3, y4, y5, y6, y7, y8, y9, y10⟩, ⟨f0, f1, f2, f3, f4, f5, f6, f7, f8, f9, f10⟩, yl⟩ := elev_freeX A.out
    go_wp2_with fail
    refine (sz _).mono ?_
    rintro e w2 ⟨rfl, hb⟩
    have D1 := Lib.hid (bstep D.out hb)
    clear hb sz
    go_wp2_with fail
    go_ret
    exact ⟨rfl, D1.out⟩
  · rw [if_neg hl] at sz ⊢
    obtain ⟨y, hz⟩ : ∃ y, z - (un : Int) = y := ⟨_, rfl⟩
    rw [hz] at sz ⊢
    have hz0 : ¬ y < 0 := by omega
    go_enter Try.func21, Try.ntmps21
    go_upto_region 1 with fail
    generalize w.alloc (.cells #[.int .i64 fr, .bool kn, .int .i64 x.id.1, .int .i64 x.id.2, .int .i64 x.bal, .int .i64 x.st, .int .i64 x.k, .int .i64 x.key, .int .i64 x.v, .int .i64 x.seq, .slice ua un uc] 61) = w1 at A D ⊢
    obtain ⟨⟨y0, y1, y2, y3, y4, y5, y6, y7, y8, y9, y10⟩, ⟨f0, f1, f2, f3, f4, f5, f6, f7, f8, f9, f10⟩, yl⟩ := elev_freeX A.out
    go_wp2_with fail
    refine (sz _).mono ?_
    rintro e w2 ⟨rfl, hb⟩
    have D1 := Lib.hid (bstep D.out hb)
    clear hb sz
    go_wp2_with fail
    go_ret
    exact ⟨rfl, D1.out⟩
/-- An answer that came in: what it depends on may be long. -/
structure LA (w : World) (b o : Nat) (x : An) (ua : Option Addr) (un uc : Nat) : Prop where
  c0 : w.cell? ⟨b, o, none⟩ = some (.int .i64 x.fr)
  c1 : w.cell? ⟨b, o + 1, none⟩ = some (.bool x.kn)
  c2 : w.cell? ⟨b, o + 2, none⟩ = some (.int .i64 x.en.id.1)
  c3 : w.cell? ⟨b, o + 3, none⟩ = some (.int .i64 x.en.id.2)
  c4 : w.cell? ⟨b, o + 4, none⟩ = some (.int .i64 x.en.bal)
  c5 : w.cell? ⟨b, o + 5, none⟩ = some (.int .i64 x.en.st)
  c6 : w.cell? ⟨b, o + 6, none⟩ = some (.int .i64 x.en.k)
  c7 : w.cell? ⟨b, o + 7, none⟩ = some (.int .i64 x.en.key)
  c8 : w.cell? ⟨b, o + 8, none⟩ = some (.int .i64 x.en.v)
  c9 : w.cell? ⟨b, o + 9, none⟩ = some (.int .i64 x.en.seq)
  c10 : w.cell? ⟨b, o + 10, none⟩ = some (.slice ua un uc)
  len : un ≤ maxLen
  ids : 1048576 < un ∨ ∃ C, Ids w (.slice ua un uc) C
/-- Answers that came in. -/
def LAs (w : World) (a : Option Addr) (len cap : Nat) : Prop := len ≤ maxLen ∧ len ≤ cap ∧ (len = 0 ∨ ∃ b off, a = some ⟨b, off, none⟩ ∧ b < w.heap.size ∧ ∀ i, i < len → ∃ x ua un uc, LA w b (off + i * 11) x ua un uc)
set_option maxRecDepth 100000 in
set_option maxHeartbeats 4000000 in
theorem szAb_at (b off ca n : Nat) (w : World) (hb : b < w.heap.size) (hm : n ≤ 9223372036854775807) (h : ∀ i, i < n → ∃ x ua un uc, LA w b (off + i * 11) x ua un uc) :
    Calls Try.prog 8 #[.slice (some ⟨b, off, none⟩) n ca, .int .i64 1048576] w fun e w' => (∃ z : Int, e = .returned (.int .i64 z) ∧ (z = -1 ∨ 0 ≤ z ∧ z ≤ 1048576 ∧ n ≤ 1048576 ∧ ∀ i, i < n → ∃ x u, AnAt w b (off + i * 11) x u)) ∧ Below w.heap.size w w' := by
  have h := Lib.hid h
  by_cases hl : 1048576 < n
  · go_enter Try.func8, Try.ntmps8
    go_wp2_with fail
    go_ret
    exact ⟨⟨_, rfl, .inl rfl⟩, Below.refl _ _⟩
  · go_enter Try.func8, Try.ntmps8
    go_wp2_with fail
    go_loopw [1, 5] (fun q i wr => ∃ (k : Nat) (l : Int), k ≤ n ∧ i = .int .i64 k ∧ q = .int .i64 l ∧ 0 ≤ l ∧ l ≤ 1048576 ∧ Hid (∀ i, i < k → ∃ x u, AnAt w b (off + i * 11) x u) ∧ Hid (Below w.heap.size w wr)) (fun _ i _ => n - (intOf i).toNat)
    case atStart => exact ⟨0, 1048576 - n, Nat.zero_le _, rfl, rfl, by omega, by omega, Lib.hid (fun i hi => absurd hi (Nat.not_lt_zero _)), Lib.hid (Below.refl _ _)⟩
    case round =>
      obtain ⟨k, l, hk, rfl, rfl, hl0, hl1, hd, hnx⟩ := hrel
      by_cases hlt : k < n
      · obtain ⟨x, ua, un, uc, hE⟩ := h.out k hlt
        have hcc : ∀ o, wr.cell? ⟨b, o, none⟩ = w.cell? ⟨b, o, none⟩ := fun o => hnx.out.cell (p := ⟨b, o, none⟩) hb
        have q0 := (hcc _).trans hE.c0
        have q1 := (hcc _).trans hE.c1
        have q2 := (hcc _).trans hE.c2
        have q3 := (hcc _).trans hE.c3
        have q4 := (hcc _).trans hE.c4
        have q5 := (hcc _).trans hE.c5
        have q6 := (hcc _).trans hE.c6
        have q7 := (hcc _).trans hE.c7
        have q8 := (hcc _).trans hE.c8
        have q9 := (hcc _).trans hE.c9
        have q10 := (hcc _).trans hE.c10
        have hun := hE.len
        have hbl := Nat.lt_of_lt_of_le hb hnx.out.size
        have hE := Lib.hid hE
        have sz := fun w => szA_any x.en x.fr x.kn ua un uc l w hl0 hl1 (by simpa [maxLen] using hun)
        clear hcc
        by_cases hlu : l < un
        · rw [if_pos hlu] at sz
          clear hd h hE
          go_wp2_with fail
          refine (sz _).mono ?_
          rintro e w1 ⟨rfl, B⟩
          have D := Lib.hid (bstep hnx.out B)
          clear B sz q0 q1 q2 q3 q4 q5 q6 q7 q8 q9 q10
          go_wp2_with fail
          go_ret
          exact ⟨⟨_, rfl, .inl rfl⟩, D.out⟩
        · rw [if_neg hlu] at sz
          obtain ⟨y, hy⟩ : ∃ y, l - (un : Int) = y := ⟨_, rfl⟩
          have hy0 : ¬ y < 0 := by omega
          have hy1 : y ≤ 1048576 := by omega
          rw [hy] at sz
          have hd1 := Lib.hid (up_to hd.out (show ∃ x u, AnAt w b (off + k * 11) x u from by
            obtain ⟨C, hC⟩ := hE.out.ids.resolve_left (by omega)
            have g := hE.out
            exact ⟨{ x with en := { x.en with deps := C } }, .slice ua un uc, g.c0, g.c1, g.c2, g.c3, g.c4, g.c5, g.c6, g.c7, g.c8, g.c9, g.c10, hC⟩))
          clear hd hE hy hlu
          go_wp2_with fail
          refine (sz _).mono ?_
          rintro e w1 ⟨rfl, B⟩
          have D := Lib.hid (bstep hnx.out B)
          clear B sz q0 q1 q2 q3 q4 q5 q6 q7 q8 q9 q10
          go_wp2_with fail
          refine ⟨⟨k + 1, y, by omega, by go_num, rfl, by omega, hy1, hd1, D⟩, ?_⟩
          simp [intOf]; omega
      · obtain rfl : k = n := by omega
        go_wp2_with fail
        go_ret
        exact ⟨⟨_, rfl, .inr ⟨hl0, hl1, by omega, hd.out⟩⟩, hnx.out⟩
theorem szAs_nil (a : Option Addr) (ca : Nat) (w : World) :
    Calls Try.prog 8 #[.slice a 0 ca, .int .i64 1048576] w fun e w' => e = .returned (.int .i64 1048576) ∧ Below w.heap.size w w' := by
  go_enter Try.func8, Try.ntmps8
  go_wp2_with fail
  refine wp_loop_rounds 1 ?_
  rw [rounds_succ]
  go_wp2_with fail
  go_ret
  exact ⟨rfl, Below.refl _ _⟩
theorem ans_of {w : World} {b off n cap : Nat} (hb : b < w.heap.size) (hc : n ≤ cap) (hl : n ≤ 2000000) (h : ∀ i, i < n → ∃ x u, AnAt w b (off + i * 11) x u) : ∃ L : List An, L.length = n ∧ Ans w (.slice (some ⟨b, off, none⟩) n cap) L := by
  have h' : ∀ i, ∃ xu : An × Value, i < n → AnAt w b (off + i * 11) xu.1 xu.2 := fun i => by
    by_cases hi : i < n
    · obtain ⟨x, u, he⟩ := h i hi; exact ⟨(x, u), fun _ => he⟩
    · exact ⟨(an0, .slice none 0 0), fun hh => absurd hh hi⟩
  let f := fun i => Classical.choose (h' i)
  have hf : ∀ i, i < n → AnAt w b (off + i * 11) (f i).1 (f i).2 := fun i hi => Classical.choose_spec (h' i) hi
  have hlen : ((List.range n).map fun i => (f i).1).length = n := by simp
  refine ⟨(List.range n).map fun i => (f i).1, hlen, some ⟨b, off, none⟩, cap, by rw [hlen], by rw [hlen]; exact hc, by rw [hlen]; exact hl, .inr ⟨b, off, fun i => (f i).2, rfl, hb, fun i hi => ?_⟩⟩
  rw [hlen] at hi
  have e : ((List.range n).map fun i => (f i).1).getD i an0 = (f i).1 := by
    rw [List.getD_eq_getElem?_getD, List.getElem?_map, List.getElem?_range hi]; rfl
  rw [e]
  exact hf i hi
theorem szAs_any (a : Option Addr) (len cap : Nat) (w : World) (h : LAs w a len cap) :
    Calls Try.prog 8 #[.slice a len cap, .int .i64 1048576] w fun e w' => (∃ z : Int, e = .returned (.int .i64 z) ∧ (z = -1 ∨ 0 ≤ z ∧ z ≤ 1048576 ∧ ∃ L : List An, L.length = len ∧ Ans w (.slice a len cap) L)) ∧ Below w.heap.size w w' := by
  obtain ⟨h1, h2, h3⟩ := h
  rcases h3 with rfl | ⟨b, off, rfl, hb, hc⟩
  · refine (szAs_nil a cap w).mono ?_
    rintro e w' ⟨rfl, B⟩
    exact ⟨⟨_, rfl, .inr ⟨by omega, by omega, [], rfl, a, cap, rfl, Nat.zero_le _, Nat.zero_le _, .inl rfl⟩⟩, B⟩
  · refine (szAb_at b off cap len w hb (by simpa [maxLen] using h1) hc).mono ?_
    rintro e w' ⟨⟨z, rfl, hz⟩, B⟩
    refine ⟨⟨z, rfl, ?_⟩, B⟩
    rcases hz with hz | ⟨hz, hz2, hl, hE⟩
    · exact .inl hz
    · exact .inr ⟨hz, hz2, ans_of hb h2 (by omega) hE⟩
theorem an_resT (tm : Array Value) (w : World) (b : Nat) (x0 x1 x2 x3 x4 x5 x6 x7 x8 x9 x10 : Value) (t : TypeId) (h2 : tm[2]? = some (.pointer (some ⟨b, 0, none⟩))) (h : w.heap[b]? = some (.cells #[x0, x1, x2, x3, x4, x5, x6, x7, x8, x9, x10] t (0, 0))) :
    (results Try.f22 tm).run Try.prog w = .ok (.agg #[x0, x1, x2, x3, x4, x5, x6, x7, x8, x9, x10]) w := by
  obtain ⟨⟨t0, t1, t2, t3, t4, t5, t6, t7, t8, t9, t10⟩, _⟩ := elev_all h
  simp [results, Try.results22, go_sem, h2, t0, t1, t2, t3, t4, t5, t6, t7, t8, t9, t10]
theorem put11_at {w : World} {b : Nat} {t : TypeId} {y0 y1 y2 y3 y4 y5 y6 y7 y8 y9 y10 : Value} (x0 x1 x2 x3 x4 x5 x6 x7 x8 x9 x10 : Value) (h : w.heap[b]? = some (.cells #[y0, y1, y2, y3, y4, y5, y6, y7, y8, y9, y10] t (0, 0))) :
    ((((((((((((w).setCell ⟨b, 0, none⟩ (x0)).setCell ⟨b, 1, none⟩ (x1)).setCell ⟨b, 2, none⟩ (x2)).setCell ⟨b, 3, none⟩ (x3)).setCell ⟨b, 4, none⟩ (x4)).setCell ⟨b, 5, none⟩ (x5)).setCell ⟨b, 6, none⟩ (x6)).setCell ⟨b, 7, none⟩ (x7)).setCell ⟨b, 8, none⟩ (x8)).setCell ⟨b, 9, none⟩ (x9)).setCell ⟨b, 10, none⟩ (x10)).heap[b]? = some (.cells #[x0, x1, x2, x3, x4, x5, x6, x7, x8, x9, x10] t (0, 0)) := by
  have e := (heap_setCell_same _ b 10 _ _ (x10) (heap_setCell_same _ b 9 _ _ (x9) (heap_setCell_same _ b 8 _ _ (x8) (heap_setCell_same _ b 7 _ _ (x7) (heap_setCell_same _ b 6 _ _ (x6) (heap_setCell_same _ b 5 _ _ (x5) (heap_setCell_same _ b 4 _ _ (x4) (heap_setCell_same _ b 3 _ _ (x3) (heap_setCell_same _ b 2 _ _ (x2) (heap_setCell_same _ b 1 _ _ (x1) (heap_setCell_same _ b 0 _ _ (x0) h)))))))))))
  simp only [List.setIfInBounds_toArray, List.set_cons_zero, List.set_cons_succ] at e
  exact e
theorem put11_other {w : World} {b c : Nat} (x0 x1 x2 x3 x4 x5 x6 x7 x8 x9 x10 : Value) (h : c ≠ b) : ((((((((((((w).setCell ⟨b, 0, none⟩ (x0)).setCell ⟨b, 1, none⟩ (x1)).setCell ⟨b, 2, none⟩ (x2)).setCell ⟨b, 3, none⟩ (x3)).setCell ⟨b, 4, none⟩ (x4)).setCell ⟨b, 5, none⟩ (x5)).setCell ⟨b, 6, none⟩ (x6)).setCell ⟨b, 7, none⟩ (x7)).setCell ⟨b, 8, none⟩ (x8)).setCell ⟨b, 9, none⟩ (x9)).setCell ⟨b, 10, none⟩ (x10)).heap[c]? = w.heap[c]? := by
  rw [heap_setCell_other _ _ _ _ h, heap_setCell_other _ _ _ _ h, heap_setCell_other _ _ _ _ h, heap_setCell_other _ _ _ _ h, heap_setCell_other _ _ _ _ h, heap_setCell_other _ _ _ _ h, heap_setCell_other _ _ _ _ h, heap_setCell_other _ _ _ _ h, heap_setCell_other _ _ _ _ h, heap_setCell_other _ _ _ _ h, heap_setCell_other _ _ _ _ h]
theorem put9_2 {w : World} {b : Nat} {t : TypeId} {y0 y1 y2 y3 y4 y5 y6 y7 y8 y9 y10 : Value} (x0 x1 x2 x3 x4 x5 x6 x7 x8 : Value) (h : w.heap[b]? = some (.cells #[y0, y1, y2, y3, y4, y5, y6, y7, y8, y9, y10] t (0, 0))) :
    ((((((((((w).setCell ⟨b, 2, none⟩ (x0)).setCell ⟨b, 3, none⟩ (x1)).setCell ⟨b, 4, none⟩ (x2)).setCell ⟨b, 5, none⟩ (x3)).setCell ⟨b, 6, none⟩ (x4)).setCell ⟨b, 7, none⟩ (x5)).setCell ⟨b, 8, none⟩ (x6)).setCell ⟨b, 9, none⟩ (x7)).setCell ⟨b, 10, none⟩ (x8)).heap[b]? = some (.cells #[y0, y1, x0, x1, x2, x3, x4, x5, x6, x7, x8] t (0, 0)) := by
  have e := (heap_setCell_same _ b 10 _ _ (x8) (heap_setCell_same _ b 9 _ _ (x7) (heap_setCell_same _ b 8 _ _ (x6) (heap_setCell_same _ b 7 _ _ (x5) (heap_setCell_same _ b 6 _ _ (x4) (heap_setCell_same _ b 5 _ _ (x3) (heap_setCell_same _ b 4 _ _ (x2) (heap_setCell_same _ b 3 _ _ (x1) (heap_setCell_same _ b 2 _ _ (x0) h)))))))))
  simp only [List.setIfInBounds_toArray, List.set_cons_zero, List.set_cons_succ] at e
  exact e
theorem put9_2o {w : World} {b c : Nat} (x0 x1 x2 x3 x4 x5 x6 x7 x8 : Value) (h : c ≠ b) : ((((((((((w).setCell ⟨b, 2, none⟩ (x0)).setCell ⟨b, 3, none⟩ (x1)).setCell ⟨b, 4, none⟩ (x2)).setCell ⟨b, 5, none⟩ (x3)).setCell ⟨b, 6, none⟩ (x4)).setCell ⟨b, 7, none⟩ (x5)).setCell ⟨b, 8, none⟩ (x6)).setCell ⟨b, 9, none⟩ (x7)).setCell ⟨b, 10, none⟩ (x8)).heap[c]? = w.heap[c]? := by
  rw [heap_setCell_other _ _ _ _ h, heap_setCell_other _ _ _ _ h, heap_setCell_other _ _ _ _ h, heap_setCell_other _ _ _ _ h, heap_setCell_other _ _ _ _ h, heap_setCell_other _ _ _ _ h, heap_setCell_other _ _ _ _ h, heap_setCell_other _ _ _ _ h, heap_setCell_other _ _ _ _ h]
theorem put_size {w : World} {p : Addr} {x : Value} : (w.setCell p x).heap.size = w.heap.size := by simp
theorem bel_of {B : Nat} {w w' : World} (ho : w'.os = w.os) (ht : w'.tape = w.tape) (hu : w'.output = w.output) (hs : w.heap.size ≤ w'.heap.size) (hb : ∀ k, k < B → w'.heap[k]? = w.heap[k]?) : Below B w w' := ⟨ho, ht, hu, hs, hb⟩
set_option maxRecDepth 100000 in
set_option maxHeartbeats 4000000 in
theorem toA_any (x : An) (u : Value) (w : World) (h : Ids w u x.en.deps) :
    Calls Try.prog 22 #[anv x u] w fun e w' => ∃ b u', w.heap.size ≤ b ∧ e = .returned (anv x u') ∧ OwnP w' b u' x.en.deps ∧ Below w.heap.size w w' := by
  have sc := fun W (hb : Below w.heap.size w W) => toE_any x.en u W (h.up hb (Nat.le_refl _))
  obtain ⟨ua, un, uc, rfl⟩ : ∃ ua un uc, u = .slice ua un uc := by obtain ⟨a, c, e, _⟩ := h; exact ⟨a, _, c, e⟩
  unfold EnCPost env at sc
  unfold anv
  have D := Lib.hid ((((Below.refl w.heap.size w).alloc (Nat.le_refl _) (.cells #[.int .i64 x.fr, .bool x.kn, .int .i64 x.en.id.1, .int .i64 x.en.id.2, .int .i64 x.en.bal, .int .i64 x.en.st, .int .i64 x.en.k, .int .i64 x.en.key, .int .i64 x.en.v, .int .i64 x.en.seq, .slice ua un uc] 61)).alloc (by simp) (.cells #[.int .i64 0, .bool false, .int .i64 0, .int .i64 0, .int .i64 0, .int .i64 0, .int .i64 0, .int .i64 0, .int .i64 0, .int .i64 0, .slice none 0 0] 48)).alloc (by simp; omega) (.cells #[.int .i64 0, .bool false, .int .i64 0, .int .i64 0, .int .i64 0, .int .i64 0, .int .i64 0, .int .i64 0, .int .i64 0, .int .i64 0, .slice none 0 0] 48))
  have A := Lib.hid ((Below.heap_alloc _ (.cells #[.int .i64 0, .bool false, .int .i64 0, .int .i64 0, .int .i64 0, .int .i64 0, .int .i64 0, .int .i64 0, .int .i64 0, .int .i64 0, .slice none 0 0] 48) _ (by simp; omega)).trans ((Below.heap_alloc _ (.cells #[.int .i64 0, .bool false, .int .i64 0, .int .i64 0, .int .i64 0, .int .i64 0, .int .i64 0, .int .i64 0, .int .i64 0, .int .i64 0, .slice none 0 0] 48) _ (by simp)).trans (heap_alloc_new w (.cells #[.int .i64 x.fr, .bool x.kn, .int .i64 x.en.id.1, .int .i64 x.en.id.2, .int .i64 x.en.bal, .int .i64 x.en.st, .int .i64 x.en.k, .int .i64 x.en.key, .int .i64 x.en.v, .int .i64 x.en.seq, .slice ua un uc] 61))))
  have R := Lib.hid ((Below.heap_alloc _ (.cells #[.int .i64 0, .bool false, .int .i64 0, .int .i64 0, .int .i64 0, .int .i64 0, .int .i64 0, .int .i64 0, .int .i64 0, .int .i64 0, .slice none 0 0] 48) _ (by simp)).trans (heap_alloc_at (w.alloc (.cells #[.int .i64 x.fr, .bool x.kn, .int .i64 x.en.id.1, .int .i64 x.en.id.2, .int .i64 x.en.bal, .int .i64 x.en.st, .int .i64 x.en.k, .int .i64 x.en.key, .int .i64 x.en.v, .int .i64 x.en.seq, .slice ua un uc] 61)) (.cells #[.int .i64 0, .bool false, .int .i64 0, .int .i64 0, .int .i64 0, .int .i64 0, .int .i64 0, .int .i64 0, .int .i64 0, .int .i64 0, .slice none 0 0] 48) (w.heap.size + 1) (by simp)))
  have O := Lib.hid (heap_alloc_at ((w.alloc (.cells #[.int .i64 x.fr, .bool x.kn, .int .i64 x.en.id.1, .int .i64 x.en.id.2, .int .i64 x.en.bal, .int .i64 x.en.st, .int .i64 x.en.k, .int .i64 x.en.key, .int .i64 x.en.v, .int .i64 x.en.seq, .slice ua un uc] 61)).alloc (.cells #[.int .i64 0, .bool false, .int .i64 0, .int .i64 0, .int .i64 0, .int .i64 0, .int .i64 0, .int .i64 0, .int .i64 0, .int .i64 0, .slice none 0 0] 48)) (.cells #[.int .i64 0, .bool false, .int .i64 0, .int .i64 0, .int .i64 0, .int .i64 0, .int .i64 0, .int .i64 0, .int .i64 0, .int .i64 0, .slice none 0 0] 48) (w.heap.size + 1 + 1) (by simp))
  go_enter Try.func22, Try.ntmps22
  go_upto_region 2 with fail
  generalize ((w.alloc (.cells #[.int .i64 x.fr, .bool x.kn, .int .i64 x.en.id.1, .int .i64 x.en.id.2, .int .i64 x.en.bal, .int .i64 x.en.st, .int .i64 x.en.k, .int .i64 x.en.key, .int .i64 x.en.v, .int .i64 x.en.seq, .slice ua un uc] 61)).alloc (.cells #[.int .i64 0, .bool false, .int .i64 0, .int .i64 0, .int .i64 0, .int .i64 0, .int .i64 0, .int .i64 0, .int .i64 0, .int .i64 0, .slice none 0 0] 48)).alloc (.cells #[.int .i64 0, .bool false, .int .i64 0, .int .i64 0, .int .i64 0, .int .i64 0, .int .i64 0, .int .i64 0, .int .i64 0, .int .i64 0, .slice none 0 0] 48) = w1 at A R O D ⊢
  obtain ⟨⟨y0, y1, y2, y3, y4, y5, y6, y7, y8, y9, y10⟩, ⟨f0, f1, f2, f3, f4, f5, f6, f7, f8, f9, f10⟩, yl⟩ := elev_freeX A.out
  obtain ⟨⟨o0, o1, o2, o3, o4, o5, o6, o7, o8, o9, o10⟩, ⟨p0, p1, p2, p3, p4, p5, p6, p7, p8, p9, p10⟩, ol⟩ := elev_freeX O.out
  go_upto_region 4 with fail
  have O2 := (heap_setCell_same _ _ 1 _ _ (.bool x.kn) (heap_setCell_same _ _ 0 _ _ (.int .i64 x.fr) O.out))
  simp only [List.setIfInBounds_toArray, List.set_cons_zero, List.set_cons_succ] at O2
  have A2 := (heap_setCell_other _ ⟨w.heap.size + 1 + 1, 1, none⟩ w.heap.size (.bool x.kn) (by show w.heap.size ≠ w.heap.size + 1 + 1; omega)).trans ((heap_setCell_other _ ⟨w.heap.size + 1 + 1, 0, none⟩ w.heap.size (.int .i64 x.fr) (by show w.heap.size ≠ w.heap.size + 1 + 1; omega)).trans A.out)
  have R2 := (heap_setCell_other _ ⟨w.heap.size + 1 + 1, 1, none⟩ (w.heap.size + 1) (.bool x.kn) (by show w.heap.size + 1 ≠ w.heap.size + 1 + 1; omega)).trans ((heap_setCell_other _ ⟨w.heap.size + 1 + 1, 0, none⟩ (w.heap.size + 1) (.int .i64 x.fr) (by show w.heap.size + 1 ≠ w.heap.size + 1 + 1; omega)).trans R.out)
  have D2 := Lib.hid ((D.out.setCell (p := ⟨w.heap.size + 1 + 1, 0, none⟩) (show w.heap.size ≤ w.heap.size + 1 + 1 by omega) (.int .i64 x.fr)).setCell (p := ⟨w.heap.size + 1 + 1, 1, none⟩) (show w.heap.size ≤ w.heap.size + 1 + 1 by omega) (.bool x.kn))
  have O2 := Lib.hid O2
  have A2 := Lib.hid A2
  have R2 := Lib.hid R2
  clear y0 y1 y2 y3 y4 y5 y6 y7 y8 y9 y10 f0 f1 f2 f3 f4 f5 f6 f7 f8 f9 f10 yl o0 o1 o2 o3 o4 o5 o6 o7 o8 o9 o10 p0 p1 p2 p3 p4 p5 p6 p7 p8 p9 p10 ol A R O D
  generalize (w1.setCell ⟨w.heap.size + 1 + 1, 0, none⟩ (.int .i64 x.fr)).setCell ⟨w.heap.size + 1 + 1, 1, none⟩ (.bool x.kn) = w2 at O2 A2 R2 D2 ⊢
  obtain ⟨⟨y0, y1, y2, y3, y4, y5, y6, y7, y8, y9, y10⟩, ⟨f0, f1, f2, f3, f4, f5, f6, f7, f8, f9, f10⟩, yl⟩ := elev_freeX A2.out
  go_wp2_with fail
  refine (sc _ D2.out).mono ?_
  rintro e w3 ⟨b1, u1, hb1, rfl, hO1, B⟩
  obtain ⟨cap, rfl, _⟩ := hO1.shape
  have O3 := Lib.hid ((B.block _ (lt_of_heap O2.out)).trans O2.out)
  have R3 := Lib.hid ((B.block _ (lt_of_heap R2.out)).trans R2.out)
  have D3 := Lib.hid (bstep D2.out B)
  have hsz := D2.out.size
  have hw2 : w.heap.size + 1 + 1 < w2.heap.size := lt_of_heap O2.out
  have hO1 := Lib.hid hO1
  clear y0 y1 y2 y3 y4 y5 y6 y7 y8 y9 y10 f0 f1 f2 f3 f4 f5 f6 f7 f8 f9 f10 yl A2 R2 O2 D2 B sc
  obtain ⟨⟨o0, o1, o2, o3, o4, o5, o6, o7, o8, o9, o10⟩, ⟨p0, p1, p2, p3, p4, p5, p6, p7, p8, p9, p10⟩, ol⟩ := elev_freeX O3.out
  go_upto_region 5 with fail
  have O4 := Lib.hid (put9_2 (.int .i64 x.en.id.1) (.int .i64 x.en.id.2) (.int .i64 x.en.bal) (.int .i64 x.en.st) (.int .i64 x.en.k) (.int .i64 x.en.key) (.int .i64 x.en.v) (.int .i64 x.en.seq) (.slice (some ⟨b1, 0, none⟩) x.en.deps.length cap) O3.out)
  have R4 := Lib.hid ((put9_2o (w := w3) (.int .i64 x.en.id.1) (.int .i64 x.en.id.2) (.int .i64 x.en.bal) (.int .i64 x.en.st) (.int .i64 x.en.k) (.int .i64 x.en.key) (.int .i64 x.en.v) (.int .i64 x.en.seq) (.slice (some ⟨b1, 0, none⟩) x.en.deps.length cap) (show w.heap.size + 1 ≠ w.heap.size + 1 + 1 by omega)).trans R3.out)
  have hO4 := Lib.hid (hO1.out.same (put9_2o (w := w3) (.int .i64 x.en.id.1) (.int .i64 x.en.id.2) (.int .i64 x.en.bal) (.int .i64 x.en.st) (.int .i64 x.en.k) (.int .i64 x.en.key) (.int .i64 x.en.v) (.int .i64 x.en.seq) (.slice (some ⟨b1, 0, none⟩) x.en.deps.length cap) (show b1 ≠ w.heap.size + 1 + 1 by omega)))
  have D4 := Lib.hid ((((((((((D3.out.setCell (p := ⟨w.heap.size + 1 + 1, 2, none⟩) (show w.heap.size ≤ w.heap.size + 1 + 1 by omega) (.int .i64 x.en.id.1)).setCell (p := ⟨w.heap.size + 1 + 1, 3, none⟩) (show w.heap.size ≤ w.heap.size + 1 + 1 by omega) (.int .i64 x.en.id.2)).setCell (p := ⟨w.heap.size + 1 + 1, 4, none⟩) (show w.heap.size ≤ w.heap.size + 1 + 1 by omega) (.int .i64 x.en.bal)).setCell (p := ⟨w.heap.size + 1 + 1, 5, none⟩) (show w.heap.size ≤ w.heap.size + 1 + 1 by omega) (.int .i64 x.en.st)).setCell (p := ⟨w.heap.size + 1 + 1, 6, none⟩) (show w.heap.size ≤ w.heap.size + 1 + 1 by omega) (.int .i64 x.en.k)).setCell (p := ⟨w.heap.size + 1 + 1, 7, none⟩) (show w.heap.size ≤ w.heap.size + 1 + 1 by omega) (.int .i64 x.en.key)).setCell (p := ⟨w.heap.size + 1 + 1, 8, none⟩) (show w.heap.size ≤ w.heap.size + 1 + 1 by omega) (.int .i64 x.en.v)).setCell (p := ⟨w.heap.size + 1 + 1, 9, none⟩) (show w.heap.size ≤ w.heap.size + 1 + 1 by omega) (.int .i64 x.en.seq)).setCell (p := ⟨w.heap.size + 1 + 1, 10, none⟩) (show w.heap.size ≤ w.heap.size + 1 + 1 by omega) (.slice (some ⟨b1, 0, none⟩) x.en.deps.length cap)))
  clear o0 o1 o2 o3 o4 o5 o6 o7 o8 o9 o10 p0 p1 p2 p3 p4 p5 p6 p7 p8 p9 p10 ol O3 R3 D3 hO1
  generalize (((((((((w3).setCell ⟨w.heap.size + 1 + 1, 2, none⟩ (.int .i64 x.en.id.1)).setCell ⟨w.heap.size + 1 + 1, 3, none⟩ (.int .i64 x.en.id.2)).setCell ⟨w.heap.size + 1 + 1, 4, none⟩ (.int .i64 x.en.bal)).setCell ⟨w.heap.size + 1 + 1, 5, none⟩ (.int .i64 x.en.st)).setCell ⟨w.heap.size + 1 + 1, 6, none⟩ (.int .i64 x.en.k)).setCell ⟨w.heap.size + 1 + 1, 7, none⟩ (.int .i64 x.en.key)).setCell ⟨w.heap.size + 1 + 1, 8, none⟩ (.int .i64 x.en.v)).setCell ⟨w.heap.size + 1 + 1, 9, none⟩ (.int .i64 x.en.seq)).setCell ⟨w.heap.size + 1 + 1, 10, none⟩ (.slice (some ⟨b1, 0, none⟩) x.en.deps.length cap) = w4 at O4 R4 hO4 D4 ⊢
  obtain ⟨⟨o0, o1, o2, o3, o4, o5, o6, o7, o8, o9, o10⟩, ⟨p0, p1, p2, p3, p4, p5, p6, p7, p8, p9, p10⟩, ol⟩ := elev_freeX O4.out
  obtain ⟨⟨r0, r1, r2, r3, r4, r5, r6, r7, r8, r9, r10⟩, ⟨s0, s1, s2, s3, s4, s5, s6, s7, s8, s9, s10⟩, rl⟩ := elev_freeX R4.out
  go_wp2_with fail
  refine bodyPost_ret (an_resT _ _ _ _ _ _ _ _ _ _ _ _ _ _ _ rfl (put11_at (.int .i64 x.fr) (.bool x.kn) (.int .i64 x.en.id.1) (.int .i64 x.en.id.2) (.int .i64 x.en.bal) (.int .i64 x.en.st) (.int .i64 x.en.k) (.int .i64 x.en.key) (.int .i64 x.en.v) (.int .i64 x.en.seq) (.slice (some ⟨b1, 0, none⟩) x.en.deps.length cap) R4.out)) rfl ⟨b1, .slice (some ⟨b1, 0, none⟩) x.en.deps.length cap, by omega, rfl, hO4.out.same (put11_other _ _ _ _ _ _ _ _ _ _ _ (by omega)), ?_⟩
  exact (((((((((((D4.out.setCell (p := ⟨w.heap.size + 1, 0, none⟩) (show w.heap.size ≤ w.heap.size + 1 by omega) (.int .i64 x.fr)).setCell (p := ⟨w.heap.size + 1, 1, none⟩) (show w.heap.size ≤ w.heap.size + 1 by omega) (.bool x.kn)).setCell (p := ⟨w.heap.size + 1, 2, none⟩) (show w.heap.size ≤ w.heap.size + 1 by omega) (.int .i64 x.en.id.1)).setCell (p := ⟨w.heap.size + 1, 3, none⟩) (show w.heap.size ≤ w.heap.size + 1 by omega) (.int .i64 x.en.id.2)).setCell (p := ⟨w.heap.size + 1, 4, none⟩) (show w.heap.size ≤ w.heap.size + 1 by omega) (.int .i64 x.en.bal)).setCell (p := ⟨w.heap.size + 1, 5, none⟩) (show w.heap.size ≤ w.heap.size + 1 by omega) (.int .i64 x.en.st)).setCell (p := ⟨w.heap.size + 1, 6, none⟩) (show w.heap.size ≤ w.heap.size + 1 by omega) (.int .i64 x.en.k)).setCell (p := ⟨w.heap.size + 1, 7, none⟩) (show w.heap.size ≤ w.heap.size + 1 by omega) (.int .i64 x.en.key)).setCell (p := ⟨w.heap.size + 1, 8, none⟩) (show w.heap.size ≤ w.heap.size + 1 by omega) (.int .i64 x.en.v)).setCell (p := ⟨w.heap.size + 1, 9, none⟩) (show w.heap.size ≤ w.heap.size + 1 by omega) (.int .i64 x.en.seq)).setCell (p := ⟨w.heap.size + 1, 10, none⟩) (show w.heap.size ≤ w.heap.size + 1 by omega) (.slice (some ⟨b1, 0, none⟩) x.en.deps.length cap))
end Go.Proofs.Ytblkpkjgmjnimaa

/- The laws' copies and comparisons of slices of answers. -/
namespace Go.Proofs.Ytblkpkjgmjnimaa
open Go.RowKit
set_option linter.unusedVariables false

theorem made_ans (n : Nat) (hn : n ≤ 2000000) (w : World) : (Instr.makeSlice 25 (.int .i64 n) (.int .i64 n)).run Try.prog w = .ok (.slice (some ⟨w.heap.size, 0, none⟩) n n) (w.alloc (.cells (madeCells #[.int .i64 0, .bool false, .int .i64 0, .int .i64 0, .int .i64 0, .int .i64 0, .int .i64 0, .int .i64 0, .int .i64 0, .int .i64 0, .slice none 0 0] (n * 11)) 48)) := by
  obtain ⟨i, hi, hz, hs, hb⟩ := info_parts info_an
  have hr := run_make (P := Try.prog) w 25 48 i _ Try.underlying25 hi hz .i64 .i64 n n (by omega) (Int.le_refl _) (by rw [hb]; omega) (by omega)
  simp only [Int.toNat_natCast, hs] at hr
  exact hr
/-- Copies so far. -/
def AnK (w : World) (B g n k : Nat) (L : List An) : Prop :=
  ∃ cur t, w.heap[g]? = some (.cells cur t (0, 0)) ∧ cur.size = n * 11 ∧ ∀ i, i < k → ∃ b u, B ≤ b ∧ b ≠ g ∧ (∀ j, j < 11 → cur[i * 11 + j]? = (acell (L.getD i an0, u))[j]?) ∧ OwnP w b u (L.getD i an0).en.deps
theorem AnK.lt {w : World} {B g n k : Nat} {L : List An} (h : AnK w B g n k L) : g < w.heap.size := by obtain ⟨cur, t, h, _⟩ := h; exact lt_of_heap h
theorem AnK.up {w w' : World} {B g n k : Nat} {L : List An} (h : AnK w B g n k L) (hb : Below w.heap.size w w') : AnK w' B g n k L := by
  obtain ⟨cur, t, h1, h2, h3⟩ := h
  refine ⟨cur, t, (hb.block g (lt_of_heap h1)).trans h1, h2, fun i hi => ?_⟩
  obtain ⟨b, u, q1, q2, hc, ho⟩ := h3 i hi
  exact ⟨b, u, q1, q2, hc, ho.up hb ho.lt⟩
theorem AnK.old {w : World} {B g n k : Nat} {L : List An} (h : AnK w B g n k L) {j : Nat} (hj : j < n * 11) : (∃ y, w.cell? ⟨g, j, none⟩ = some y) ∧ w.frozen? ⟨g, j, none⟩ = false := by
  obtain ⟨cur, t, h1, h2, _⟩ := h
  exact ⟨⟨cur[j]'(by omega), by rw [cell_of_cells h1]; simp [show j < cur.size by omega]⟩, by simp [World.frozen?, h1]⟩
theorem AnK.put {w : World} {B g n k : Nat} {L : List An} (h : AnK w B g n k L) (hk : k < n) {b : Nat} {u : Value} {x : An} (he : L.getD k an0 = x) (hB : B ≤ b) (hbg : b ≠ g) (ho : OwnP w b u x.en.deps) :
    AnK ((((((((((((w).setCell ⟨g, k * 11, none⟩ (.int .i64 x.fr)).setCell ⟨g, k * 11 + 1, none⟩ (.bool x.kn)).setCell ⟨g, k * 11 + 2, none⟩ (.int .i64 x.en.id.1)).setCell ⟨g, k * 11 + 3, none⟩ (.int .i64 x.en.id.2)).setCell ⟨g, k * 11 + 4, none⟩ (.int .i64 x.en.bal)).setCell ⟨g, k * 11 + 5, none⟩ (.int .i64 x.en.st)).setCell ⟨g, k * 11 + 6, none⟩ (.int .i64 x.en.k)).setCell ⟨g, k * 11 + 7, none⟩ (.int .i64 x.en.key)).setCell ⟨g, k * 11 + 8, none⟩ (.int .i64 x.en.v)).setCell ⟨g, k * 11 + 9, none⟩ (.int .i64 x.en.seq)).setCell ⟨g, k * 11 + 10, none⟩ (u)) B g n (k + 1) L := by
  obtain ⟨cur, t, h1, h2, h3⟩ := h
  have oth : ∀ c, c ≠ g → ((((((((((((w).setCell ⟨g, k * 11, none⟩ (.int .i64 x.fr)).setCell ⟨g, k * 11 + 1, none⟩ (.bool x.kn)).setCell ⟨g, k * 11 + 2, none⟩ (.int .i64 x.en.id.1)).setCell ⟨g, k * 11 + 3, none⟩ (.int .i64 x.en.id.2)).setCell ⟨g, k * 11 + 4, none⟩ (.int .i64 x.en.bal)).setCell ⟨g, k * 11 + 5, none⟩ (.int .i64 x.en.st)).setCell ⟨g, k * 11 + 6, none⟩ (.int .i64 x.en.k)).setCell ⟨g, k * 11 + 7, none⟩ (.int .i64 x.en.key)).setCell ⟨g, k * 11 + 8, none⟩ (.int .i64 x.en.v)).setCell ⟨g, k * 11 + 9, none⟩ (.int .i64 x.en.seq)).setCell ⟨g, k * 11 + 10, none⟩ (u)).heap[c]? = w.heap[c]? := fun c hc => by
    rw [heap_setCell_other _ _ _ _ hc, heap_setCell_other _ _ _ _ hc, heap_setCell_other _ _ _ _ hc, heap_setCell_other _ _ _ _ hc, heap_setCell_other _ _ _ _ hc, heap_setCell_other _ _ _ _ hc, heap_setCell_other _ _ _ _ hc, heap_setCell_other _ _ _ _ hc, heap_setCell_other _ _ _ _ hc, heap_setCell_other _ _ _ _ hc, heap_setCell_other _ _ _ _ hc]
  have e0 := (heap_setCell_same _ g (k * 11 + 10) _ _ (u) (heap_setCell_same _ g (k * 11 + 9) _ _ (.int .i64 x.en.seq) (heap_setCell_same _ g (k * 11 + 8) _ _ (.int .i64 x.en.v) (heap_setCell_same _ g (k * 11 + 7) _ _ (.int .i64 x.en.key) (heap_setCell_same _ g (k * 11 + 6) _ _ (.int .i64 x.en.k) (heap_setCell_same _ g (k * 11 + 5) _ _ (.int .i64 x.en.st) (heap_setCell_same _ g (k * 11 + 4) _ _ (.int .i64 x.en.bal) (heap_setCell_same _ g (k * 11 + 3) _ _ (.int .i64 x.en.id.2) (heap_setCell_same _ g (k * 11 + 2) _ _ (.int .i64 x.en.id.1) (heap_setCell_same _ g (k * 11 + 1) _ _ (.bool x.kn) (heap_setCell_same _ g (k * 11) _ _ (.int .i64 x.fr) h1)))))))))))
  refine ⟨_, t, e0, by simpa using h2, fun i hi => ?_⟩
  rcases Nat.lt_or_ge i k with hlt | hge
  · obtain ⟨b', u', q1, q2, hc, hO⟩ := h3 i hlt
    refine ⟨b', u', q1, q2, fun j hj => ?_, hO.same (oth b' q2)⟩
    rw [← hc j hj]
    repeat rw [Array.getElem?_setIfInBounds_ne (by omega)]
  · obtain rfl : i = k := by omega
    rw [he]
    refine ⟨b, u, hB, hbg, fun j hj => ?_, ho.same (oth b hbg)⟩
    have hsz : i * 11 + 10 < cur.size := by omega
    rcases (show j = 0 ∨ j = 1 ∨ j = 2 ∨ j = 3 ∨ j = 4 ∨ j = 5 ∨ j = 6 ∨ j = 7 ∨ j = 8 ∨ j = 9 ∨ j = 10 by omega) with rfl | rfl | rfl | rfl | rfl | rfl | rfl | rfl | rfl | rfl | rfl <;> simp [Array.getElem?_setIfInBounds, acell] <;> omega
theorem anK_made (w : World) (n : Nat) (L : List An) (t : TypeId) : AnK (w.alloc (.cells (madeCells #[.int .i64 0, .bool false, .int .i64 0, .int .i64 0, .int .i64 0, .int .i64 0, .int .i64 0, .int .i64 0, .int .i64 0, .int .i64 0, .slice none 0 0] (n * 11)) t)) w.heap.size w.heap.size n 0 L :=
  ⟨_, t, heap_alloc_new w _, by simp [madeCells], fun i hi => absurd hi (Nat.not_lt_zero _)⟩
theorem AnK.ans {w : World} {B g n k : Nat} {L : List An} (h : AnK w B g n k L) (hk : L.length ≤ k) (hn : L.length ≤ n) (hm : L.length ≤ 2000000) : Ans w (.slice (some ⟨g, 0, none⟩) L.length n) L := by
  obtain ⟨cur, t, hg, _, h3⟩ := h
  have h' : ∀ i, ∃ u, i < L.length → (∀ j, j < 11 → cur[i * 11 + j]? = (acell (L.getD i an0, u))[j]?) ∧ Ids w u (L.getD i an0).en.deps := fun i => by
    by_cases hi : i < L.length
    · obtain ⟨b, u, _, _, hc, hO⟩ := h3 i (by omega)
      exact ⟨u, fun _ => ⟨hc, hO.read⟩⟩
    · exact ⟨.slice none 0 0, fun hh => absurd hh hi⟩
  refine ⟨_, n, rfl, hn, hm, .inr ⟨g, 0, fun i => Classical.choose (h' i), rfl, lt_of_heap hg, fun i hi => ?_⟩⟩
  obtain ⟨hc, hI⟩ := Classical.choose_spec (h' i) hi
  exact anc_at hg hc hI
/-- What toAnswerS leaves. -/
def AnsCP (L : List An) (w : World) (e : Ending) (w' : World) : Prop := ∃ v, e = .returned v ∧ Ans w' v L ∧ Below w.heap.size w w'
set_option maxRecDepth 100000 in
set_option maxHeartbeats 4000000 in
theorem toAs_at (b off ca : Nat) (L : List An) (U : Nat → Value) (w : World) (hm : L.length ≤ 2000000) (h : AnsAt w b off L U) :
    Calls Try.prog 10 #[.slice (some ⟨b, off, none⟩) L.length ca] w (AnsCP L w) := by
  have hmk := made_ans L.length hm
  have h := Lib.hid h
  have hO := Lib.hid (anK_made w L.length L 48)
  obtain ⟨n, hn⟩ : ∃ n, Hid (L.length = n) := ⟨_, Lib.hid rfl⟩
  rw [hn.out] at hmk hm hO ⊢
  have B0 := Lib.hid ((Below.refl w.heap.size w).alloc (Nat.le_refl _) (.cells (madeCells #[.int .i64 0, .bool false, .int .i64 0, .int .i64 0, .int .i64 0, .int .i64 0, .int .i64 0, .int .i64 0, .int .i64 0, .int .i64 0, .slice none 0 0] (n * 11)) 48))
  go_enter Try.func10, Try.ntmps10
  go_wp2_with fail
  clear hmk
  go_loopw [4] (fun i wr => ∃ k : Nat, k ≤ n ∧ i = .int .i64 k ∧ Hid (AnK wr w.heap.size w.heap.size n k L) ∧ Hid (Below w.heap.size w wr)) (fun i _ => n - (intOf i).toNat)
  case atStart => exact ⟨0, Nat.zero_le _, rfl, hO, B0⟩
  case round =>
    obtain ⟨k, hk, rfl, hM, hnx⟩ := hrel
    clear hO B0
    by_cases hlt : k < n
    · have hkL : k < L.length := by rw [hn.out]; exact hlt
      have hA := h.out.up hnx.out (Nat.le_refl _)
      have hbl := hA.lt
      obtain ⟨x, hx⟩ : ∃ x, Hid (L.getD k an0 = x) := ⟨_, Lib.hid rfl⟩
      have hX := hA.at_ k hkL
      rw [hx.out] at hX
      obtain ⟨ua, un, uc, hu⟩ : ∃ ua un uc, U k = .slice ua un uc := by obtain ⟨a, c, e, _⟩ := hX.ids; exact ⟨a, _, c, e⟩
      rw [hu] at hX
      have sc := toA_any x (.slice ua un uc) wr hX.ids
      obtain ⟨q0, q1, q2, q3, q4, q5, q6, q7, q8, q9, q10, _⟩ := hX
      clear hu hA
      have put := Lib.hid (fun (W : World) (H : AnK W w.heap.size w.heap.size n k L) (b : Nat) (u : Value) => AnK.put (b := b) (u := u) H hlt hx.out)
      unfold anv at sc
      have hs := Lib.hid hM.out.lt
      go_wp2_with fail
      refine sc.mono ?_
      rintro e w1 ⟨b1, u1, hb1, rfl, hO1, B⟩
      obtain ⟨cap, rfl, _⟩ := hO1.shape
      have hK := hM.out.up B
      obtain ⟨⟨y0, d0⟩, f0⟩ := hK.old (j := k * 11) (by omega)
      obtain ⟨⟨y1, d1⟩, f1⟩ := hK.old (j := k * 11 + 1) (by omega)
      obtain ⟨⟨y2, d2⟩, f2⟩ := hK.old (j := k * 11 + 2) (by omega)
      obtain ⟨⟨y3, d3⟩, f3⟩ := hK.old (j := k * 11 + 3) (by omega)
      obtain ⟨⟨y4, d4⟩, f4⟩ := hK.old (j := k * 11 + 4) (by omega)
      obtain ⟨⟨y5, d5⟩, f5⟩ := hK.old (j := k * 11 + 5) (by omega)
      obtain ⟨⟨y6, d6⟩, f6⟩ := hK.old (j := k * 11 + 6) (by omega)
      obtain ⟨⟨y7, d7⟩, f7⟩ := hK.old (j := k * 11 + 7) (by omega)
      obtain ⟨⟨y8, d8⟩, f8⟩ := hK.old (j := k * 11 + 8) (by omega)
      obtain ⟨⟨y9, d9⟩, f9⟩ := hK.old (j := k * 11 + 9) (by omega)
      obtain ⟨⟨y10, d10⟩, f10⟩ := hK.old (j := k * 11 + 10) (by omega)
      have hs1 := hK.lt
      have R := Lib.hid (put.out w1 hK b1 _ (Nat.le_trans hnx.out.size hb1) (by have := hs.out; omega) hO1)
      have D1 := Lib.hid (hnx.out.trans (B.mono hnx.out.size))
      clear hM h hO1 B hnx q0 q1 q2 q3 q4 q5 q6 q7 q8 q9 q10 hs hK sc put hb1 hx
      go_wp2_with fail
      refine ⟨⟨k + 1, by omega, by go_num, Lib.hid R.out, Lib.hid (((((((((((D1.out.setCell (p := ⟨w.heap.size, k * 11, none⟩) (Nat.le_refl _) (.int .i64 x.fr)).setCell (p := ⟨w.heap.size, k * 11 + 1, none⟩) (Nat.le_refl _) (.bool x.kn)).setCell (p := ⟨w.heap.size, k * 11 + 2, none⟩) (Nat.le_refl _) (.int .i64 x.en.id.1)).setCell (p := ⟨w.heap.size, k * 11 + 3, none⟩) (Nat.le_refl _) (.int .i64 x.en.id.2)).setCell (p := ⟨w.heap.size, k * 11 + 4, none⟩) (Nat.le_refl _) (.int .i64 x.en.bal)).setCell (p := ⟨w.heap.size, k * 11 + 5, none⟩) (Nat.le_refl _) (.int .i64 x.en.st)).setCell (p := ⟨w.heap.size, k * 11 + 6, none⟩) (Nat.le_refl _) (.int .i64 x.en.k)).setCell (p := ⟨w.heap.size, k * 11 + 7, none⟩) (Nat.le_refl _) (.int .i64 x.en.key)).setCell (p := ⟨w.heap.size, k * 11 + 8, none⟩) (Nat.le_refl _) (.int .i64 x.en.v)).setCell (p := ⟨w.heap.size, k * 11 + 9, none⟩) (Nat.le_refl _) (.int .i64 x.en.seq)).setCell (p := ⟨w.heap.size, k * 11 + 10, none⟩) (Nat.le_refl _) (.slice (some ⟨b1, 0, none⟩) x.en.deps.length cap))⟩, ?_⟩
      simp [intOf]; omega
    · obtain rfl : k = n := by omega
      clear h
      go_wp2_with fail
      go_ret
      exact ⟨_, rfl, by have := hM.out.ans (by rw [hn.out]; exact Nat.le_refl _) (by rw [hn.out]; exact Nat.le_refl _) (by rw [hn.out]; exact hm); rw [hn.out] at this; exact this, hnx.out⟩
set_option maxRecDepth 100000 in
theorem toAs_nil (a : Option Addr) (ca : Nat) (w : World) : Calls Try.prog 10 #[.slice a 0 ca] w (AnsCP [] w) := by
  have hmk : ∀ w : World, (Instr.makeSlice 25 (.int .i64 0) (.int .i64 0)).run Try.prog w = .ok (.slice (some ⟨w.heap.size, 0, none⟩) 0 0) (w.alloc (.cells (madeCells #[.int .i64 0, .bool false, .int .i64 0, .int .i64 0, .int .i64 0, .int .i64 0, .int .i64 0, .int .i64 0, .int .i64 0, .int .i64 0, .slice none 0 0] (0 * 11)) 48)) := made_ans 0 (by omega)
  go_enter Try.func10, Try.ntmps10
  go_wp2_with fail
  refine wp_loop_rounds 1 ?_
  rw [rounds_succ]
  go_wp2_with fail
  go_ret
  exact ⟨_, rfl, ⟨_, 0, rfl, Nat.le_refl _, Nat.zero_le _, .inl rfl⟩, (Below.refl _ _).alloc (Nat.le_refl _) _⟩
theorem toAs_any (u : Value) (L : List An) (w : World) (h : Ans w u L) : Calls Try.prog 10 #[u] w (AnsCP L w) := by
  obtain ⟨a, cap, rfl, h1, h2, h3⟩ := h
  rcases h3 with h3 | ⟨b, off, U, rfl, h4⟩
  · obtain rfl : L = [] := List.length_eq_zero_iff.1 h3
    exact toAs_nil a cap w
  · exact toAs_at b off cap L U w h2 h4
set_option maxRecDepth 100000 in
set_option maxHeartbeats 4000000 in
theorem eqA_any (x : An) (u v : Value) (w : World) (hu : Ids w u x.en.deps) (hv : Ids w v x.en.deps) :
    Calls Try.prog 23 #[anv x u, anv x v] w fun e w' => e = .returned (.bool true) ∧ Below w.heap.size w w' := by
  have se := fun W (hb : Below w.heap.size w W) => eqE_any x.en u v W (hu.up hb (Nat.le_refl _)) (hv.up hb (Nat.le_refl _))
  obtain ⟨ua, un, uc, rfl⟩ : ∃ ua un uc, u = .slice ua un uc := by obtain ⟨a, c, e, _⟩ := hu; exact ⟨a, _, c, e⟩
  obtain ⟨va, vn, vc, rfl⟩ : ∃ ua un uc, v = .slice ua un uc := by obtain ⟨a, c, e, _⟩ := hv; exact ⟨a, _, c, e⟩
  unfold env at se
  unfold anv
  have A := Lib.hid ((Below.heap_alloc _ (.cells #[.int .i64 x.fr, .bool x.kn, .int .i64 x.en.id.1, .int .i64 x.en.id.2, .int .i64 x.en.bal, .int .i64 x.en.st, .int .i64 x.en.k, .int .i64 x.en.key, .int .i64 x.en.v, .int .i64 x.en.seq, .slice va vn vc] 48) _ (by simp)).trans (heap_alloc_new w (.cells #[.int .i64 x.fr, .bool x.kn, .int .i64 x.en.id.1, .int .i64 x.en.id.2, .int .i64 x.en.bal, .int .i64 x.en.st, .int .i64 x.en.k, .int .i64 x.en.key, .int .i64 x.en.v, .int .i64 x.en.seq, .slice ua un uc] 48)))
  have R := Lib.hid (heap_alloc_at (w.alloc (.cells #[.int .i64 x.fr, .bool x.kn, .int .i64 x.en.id.1, .int .i64 x.en.id.2, .int .i64 x.en.bal, .int .i64 x.en.st, .int .i64 x.en.k, .int .i64 x.en.key, .int .i64 x.en.v, .int .i64 x.en.seq, .slice ua un uc] 48)) (.cells #[.int .i64 x.fr, .bool x.kn, .int .i64 x.en.id.1, .int .i64 x.en.id.2, .int .i64 x.en.bal, .int .i64 x.en.st, .int .i64 x.en.k, .int .i64 x.en.key, .int .i64 x.en.v, .int .i64 x.en.seq, .slice va vn vc] 48) (w.heap.size + 1) (by simp))
  have D := Lib.hid (((Below.refl w.heap.size w).alloc (Nat.le_refl _) (.cells #[.int .i64 x.fr, .bool x.kn, .int .i64 x.en.id.1, .int .i64 x.en.id.2, .int .i64 x.en.bal, .int .i64 x.en.st, .int .i64 x.en.k, .int .i64 x.en.key, .int .i64 x.en.v, .int .i64 x.en.seq, .slice ua un uc] 48)).alloc (by simp) (.cells #[.int .i64 x.fr, .bool x.kn, .int .i64 x.en.id.1, .int .i64 x.en.id.2, .int .i64 x.en.bal, .int .i64 x.en.st, .int .i64 x.en.k, .int .i64 x.en.key, .int .i64 x.en.v, .int .i64 x.en.seq, .slice va vn vc] 48))
  clear hu hv
  go_enter Try.func23, Try.ntmps23
  go_upto_region 1 with fail
  generalize (w.alloc (.cells #[.int .i64 x.fr, .bool x.kn, .int .i64 x.en.id.1, .int .i64 x.en.id.2, .int .i64 x.en.bal, .int .i64 x.en.st, .int .i64 x.en.k, .int .i64 x.en.key, .int .i64 x.en.v, .int .i64 x.en.seq, .slice ua un uc] 48)).alloc (.cells #[.int .i64 x.fr, .bool x.kn, .int .i64 x.en.id.1, .int .i64 x.en.id.2, .int .i64 x.en.bal, .int .i64 x.en.st, .int .i64 x.en.k, .int .i64 x.en.key, .int .i64 x.en.v, .int .i64 x.en.seq, .slice va vn vc] 48) = w1 at A R D ⊢
  obtain ⟨⟨y0, y1, y2, y3, y4, y5, y6, y7, y8, y9, y10⟩, ⟨f0, f1, f2, f3, f4, f5, f6, f7, f8, f9, f10⟩, yl⟩ := elev_freeX A.out
  obtain ⟨⟨o0, o1, o2, o3, o4, o5, o6, o7, o8, o9, o10⟩, ⟨p0, p1, p2, p3, p4, p5, p6, p7, p8, p9, p10⟩, ol⟩ := elev_freeX R.out
  obtain ⟨kn, hkn⟩ : ∃ q, x.kn = q := ⟨_, rfl⟩
  rw [hkn] at y1 o1
  clear hkn
  cases kn
  · go_wp2_with fail
    refine (se _ D.out).mono ?_
    rintro e w2 ⟨rfl, B⟩
    have D2 := Lib.hid (bstep D.out B)
    clear B se
    go_wp2_with fail
    go_ret
    exact ⟨rfl, D2.out⟩
  · go_wp2_with fail
    refine (se _ D.out).mono ?_
    rintro e w2 ⟨rfl, B⟩
    have D2 := Lib.hid (bstep D.out B)
    clear B se
    go_wp2_with fail
    go_ret
    exact ⟨rfl, D2.out⟩
section
variable {wr wc w' : World} {b b' o o' : Nat} {x : An} {ua va : Option Addr} {un uc vn vc : Nat}
theorem qa_keep (hb : Below wc.heap.size wc w') (h : ((wc.cell? ⟨b, o, none⟩ = some (.int .i64 x.fr) ∧ wc.cell? ⟨b, o + 1, none⟩ = some (.bool x.kn) ∧ wc.cell? ⟨b, o + 2, none⟩ = some (.int .i64 x.en.id.1) ∧ wc.cell? ⟨b, o + 3, none⟩ = some (.int .i64 x.en.id.2) ∧ wc.cell? ⟨b, o + 4, none⟩ = some (.int .i64 x.en.bal) ∧ wc.cell? ⟨b, o + 5, none⟩ = some (.int .i64 x.en.st) ∧ wc.cell? ⟨b, o + 6, none⟩ = some (.int .i64 x.en.k) ∧ wc.cell? ⟨b, o + 7, none⟩ = some (.int .i64 x.en.key) ∧ wc.cell? ⟨b, o + 8, none⟩ = some (.int .i64 x.en.v) ∧ wc.cell? ⟨b, o + 9, none⟩ = some (.int .i64 x.en.seq) ∧ wc.cell? ⟨b, o + 10, none⟩ = some (.slice ua un uc)) ∧ (wc.cell? ⟨b', o', none⟩ = some (.int .i64 x.fr) ∧ wc.cell? ⟨b', o' + 1, none⟩ = some (.bool x.kn) ∧ wc.cell? ⟨b', o' + 2, none⟩ = some (.int .i64 x.en.id.1) ∧ wc.cell? ⟨b', o' + 3, none⟩ = some (.int .i64 x.en.id.2) ∧ wc.cell? ⟨b', o' + 4, none⟩ = some (.int .i64 x.en.bal) ∧ wc.cell? ⟨b', o' + 5, none⟩ = some (.int .i64 x.en.st) ∧ wc.cell? ⟨b', o' + 6, none⟩ = some (.int .i64 x.en.k) ∧ wc.cell? ⟨b', o' + 7, none⟩ = some (.int .i64 x.en.key) ∧ wc.cell? ⟨b', o' + 8, none⟩ = some (.int .i64 x.en.v) ∧ wc.cell? ⟨b', o' + 9, none⟩ = some (.int .i64 x.en.seq) ∧ wc.cell? ⟨b', o' + 10, none⟩ = some (.slice va vn vc))) ∧ Below wr.heap.size wr wc) : ((w'.cell? ⟨b, o, none⟩ = some (.int .i64 x.fr) ∧ w'.cell? ⟨b, o + 1, none⟩ = some (.bool x.kn) ∧ w'.cell? ⟨b, o + 2, none⟩ = some (.int .i64 x.en.id.1) ∧ w'.cell? ⟨b, o + 3, none⟩ = some (.int .i64 x.en.id.2) ∧ w'.cell? ⟨b, o + 4, none⟩ = some (.int .i64 x.en.bal) ∧ w'.cell? ⟨b, o + 5, none⟩ = some (.int .i64 x.en.st) ∧ w'.cell? ⟨b, o + 6, none⟩ = some (.int .i64 x.en.k) ∧ w'.cell? ⟨b, o + 7, none⟩ = some (.int .i64 x.en.key) ∧ w'.cell? ⟨b, o + 8, none⟩ = some (.int .i64 x.en.v) ∧ w'.cell? ⟨b, o + 9, none⟩ = some (.int .i64 x.en.seq) ∧ w'.cell? ⟨b, o + 10, none⟩ = some (.slice ua un uc)) ∧ (w'.cell? ⟨b', o', none⟩ = some (.int .i64 x.fr) ∧ w'.cell? ⟨b', o' + 1, none⟩ = some (.bool x.kn) ∧ w'.cell? ⟨b', o' + 2, none⟩ = some (.int .i64 x.en.id.1) ∧ w'.cell? ⟨b', o' + 3, none⟩ = some (.int .i64 x.en.id.2) ∧ w'.cell? ⟨b', o' + 4, none⟩ = some (.int .i64 x.en.bal) ∧ w'.cell? ⟨b', o' + 5, none⟩ = some (.int .i64 x.en.st) ∧ w'.cell? ⟨b', o' + 6, none⟩ = some (.int .i64 x.en.k) ∧ w'.cell? ⟨b', o' + 7, none⟩ = some (.int .i64 x.en.key) ∧ w'.cell? ⟨b', o' + 8, none⟩ = some (.int .i64 x.en.v) ∧ w'.cell? ⟨b', o' + 9, none⟩ = some (.int .i64 x.en.seq) ∧ w'.cell? ⟨b', o' + 10, none⟩ = some (.slice va vn vc))) ∧ Below wr.heap.size wr w' :=
  ⟨⟨⟨cell_later hb h.1.1.1, cell_later hb h.1.1.2.1, cell_later hb h.1.1.2.2.1, cell_later hb h.1.1.2.2.2.1, cell_later hb h.1.1.2.2.2.2.1, cell_later hb h.1.1.2.2.2.2.2.1, cell_later hb h.1.1.2.2.2.2.2.2.1, cell_later hb h.1.1.2.2.2.2.2.2.2.1, cell_later hb h.1.1.2.2.2.2.2.2.2.2.1, cell_later hb h.1.1.2.2.2.2.2.2.2.2.2.1, cell_later hb h.1.1.2.2.2.2.2.2.2.2.2.2⟩, ⟨cell_later hb h.1.2.1, cell_later hb h.1.2.2.1, cell_later hb h.1.2.2.2.1, cell_later hb h.1.2.2.2.2.1, cell_later hb h.1.2.2.2.2.2.1, cell_later hb h.1.2.2.2.2.2.2.1, cell_later hb h.1.2.2.2.2.2.2.2.1, cell_later hb h.1.2.2.2.2.2.2.2.2.1, cell_later hb h.1.2.2.2.2.2.2.2.2.2.1, cell_later hb h.1.2.2.2.2.2.2.2.2.2.2.1, cell_later hb h.1.2.2.2.2.2.2.2.2.2.2.2⟩⟩, h.2.trans (hb.mono h.2.size)⟩
theorem qa_drew (h : ((wc.cell? ⟨b, o, none⟩ = some (.int .i64 x.fr) ∧ wc.cell? ⟨b, o + 1, none⟩ = some (.bool x.kn) ∧ wc.cell? ⟨b, o + 2, none⟩ = some (.int .i64 x.en.id.1) ∧ wc.cell? ⟨b, o + 3, none⟩ = some (.int .i64 x.en.id.2) ∧ wc.cell? ⟨b, o + 4, none⟩ = some (.int .i64 x.en.bal) ∧ wc.cell? ⟨b, o + 5, none⟩ = some (.int .i64 x.en.st) ∧ wc.cell? ⟨b, o + 6, none⟩ = some (.int .i64 x.en.k) ∧ wc.cell? ⟨b, o + 7, none⟩ = some (.int .i64 x.en.key) ∧ wc.cell? ⟨b, o + 8, none⟩ = some (.int .i64 x.en.v) ∧ wc.cell? ⟨b, o + 9, none⟩ = some (.int .i64 x.en.seq) ∧ wc.cell? ⟨b, o + 10, none⟩ = some (.slice ua un uc)) ∧ (wc.cell? ⟨b', o', none⟩ = some (.int .i64 x.fr) ∧ wc.cell? ⟨b', o' + 1, none⟩ = some (.bool x.kn) ∧ wc.cell? ⟨b', o' + 2, none⟩ = some (.int .i64 x.en.id.1) ∧ wc.cell? ⟨b', o' + 3, none⟩ = some (.int .i64 x.en.id.2) ∧ wc.cell? ⟨b', o' + 4, none⟩ = some (.int .i64 x.en.bal) ∧ wc.cell? ⟨b', o' + 5, none⟩ = some (.int .i64 x.en.st) ∧ wc.cell? ⟨b', o' + 6, none⟩ = some (.int .i64 x.en.k) ∧ wc.cell? ⟨b', o' + 7, none⟩ = some (.int .i64 x.en.key) ∧ wc.cell? ⟨b', o' + 8, none⟩ = some (.int .i64 x.en.v) ∧ wc.cell? ⟨b', o' + 9, none⟩ = some (.int .i64 x.en.seq) ∧ wc.cell? ⟨b', o' + 10, none⟩ = some (.slice va vn vc))) ∧ Below wr.heap.size wr wc) : ((wc.drew.cell? ⟨b, o, none⟩ = some (.int .i64 x.fr) ∧ wc.drew.cell? ⟨b, o + 1, none⟩ = some (.bool x.kn) ∧ wc.drew.cell? ⟨b, o + 2, none⟩ = some (.int .i64 x.en.id.1) ∧ wc.drew.cell? ⟨b, o + 3, none⟩ = some (.int .i64 x.en.id.2) ∧ wc.drew.cell? ⟨b, o + 4, none⟩ = some (.int .i64 x.en.bal) ∧ wc.drew.cell? ⟨b, o + 5, none⟩ = some (.int .i64 x.en.st) ∧ wc.drew.cell? ⟨b, o + 6, none⟩ = some (.int .i64 x.en.k) ∧ wc.drew.cell? ⟨b, o + 7, none⟩ = some (.int .i64 x.en.key) ∧ wc.drew.cell? ⟨b, o + 8, none⟩ = some (.int .i64 x.en.v) ∧ wc.drew.cell? ⟨b, o + 9, none⟩ = some (.int .i64 x.en.seq) ∧ wc.drew.cell? ⟨b, o + 10, none⟩ = some (.slice ua un uc)) ∧ (wc.drew.cell? ⟨b', o', none⟩ = some (.int .i64 x.fr) ∧ wc.drew.cell? ⟨b', o' + 1, none⟩ = some (.bool x.kn) ∧ wc.drew.cell? ⟨b', o' + 2, none⟩ = some (.int .i64 x.en.id.1) ∧ wc.drew.cell? ⟨b', o' + 3, none⟩ = some (.int .i64 x.en.id.2) ∧ wc.drew.cell? ⟨b', o' + 4, none⟩ = some (.int .i64 x.en.bal) ∧ wc.drew.cell? ⟨b', o' + 5, none⟩ = some (.int .i64 x.en.st) ∧ wc.drew.cell? ⟨b', o' + 6, none⟩ = some (.int .i64 x.en.k) ∧ wc.drew.cell? ⟨b', o' + 7, none⟩ = some (.int .i64 x.en.key) ∧ wc.drew.cell? ⟨b', o' + 8, none⟩ = some (.int .i64 x.en.v) ∧ wc.drew.cell? ⟨b', o' + 9, none⟩ = some (.int .i64 x.en.seq) ∧ wc.drew.cell? ⟨b', o' + 10, none⟩ = some (.slice va vn vc))) ∧ Below wr.heap.size wr wc.drew := ⟨h.1, h.2.drew⟩
end
set_option maxRecDepth 100000 in
set_option maxHeartbeats 4000000 in
theorem eqAs_at (b off ca b' off' ca' : Nat) (L : List An) (U U' : Nat → Value) (w : World) (hm : L.length ≤ 2000000) (h : AnsAt w b off L U) (h' : AnsAt w b' off' L U') :
    Calls Try.prog 11 #[.slice (some ⟨b, off, none⟩) L.length ca, .slice (some ⟨b', off', none⟩) L.length ca'] w fun e w' => e = .returned (.bool true) ∧ Below w.heap.size w w' := by
  have h := Lib.hid h
  have h' := Lib.hid h'
  obtain ⟨n, hn⟩ : ∃ n, Hid (L.length = n) := ⟨_, Lib.hid rfl⟩
  rw [hn.out] at hm ⊢
  go_enter Try.func11, Try.ntmps11
  go_wp2_with fail
  go_loopw [5] (fun i wr => ∃ k : Nat, k ≤ n ∧ i = .int .i64 k ∧ Hid (Below w.heap.size w wr)) (fun i _ => n - (intOf i).toNat)
  case atStart => exact ⟨0, Nat.zero_le _, rfl, Lib.hid (Below.refl _ _)⟩
  case round =>
    obtain ⟨k, hk, rfl, hnx⟩ := hrel
    by_cases hlt : k < n
    · have hkL : k < L.length := by rw [hn.out]; exact hlt
      have hA := h.out.up hnx.out (Nat.le_refl _)
      have hA' := h'.out.up hnx.out (Nat.le_refl _)
      obtain ⟨x, hx⟩ : ∃ x, Hid (L.getD k an0 = x) := ⟨_, Lib.hid rfl⟩
      obtain ⟨ua, un, uc, hu⟩ : ∃ ua un uc, U k = .slice ua un uc := by obtain ⟨a, c, e, _⟩ := (hA.at_ k hkL).ids; exact ⟨a, _, c, e⟩
      obtain ⟨va, vn, vc, hv⟩ : ∃ ua un uc, U' k = .slice ua un uc := by obtain ⟨a, c, e, _⟩ := (hA'.at_ k hkL).ids; exact ⟨a, _, c, e⟩
      have X := hA.at_ k hkL
      have X' := hA'.at_ k hkL
      rw [hx.out, hu] at X
      rw [hx.out, hv] at X'
      have qb := hA.lt
      have qb' := hA'.lt
      obtain ⟨o, ho⟩ : ∃ o, off + k * 11 = o := ⟨_, rfl⟩
      obtain ⟨o', ho'⟩ : ∃ o, off' + k * 11 = o := ⟨_, rfl⟩
      rw [ho] at X
      rw [ho'] at X'
      have H0 := Lib.hid (show ((wr.cell? ⟨b, o, none⟩ = some (.int .i64 x.fr) ∧ wr.cell? ⟨b, o + 1, none⟩ = some (.bool x.kn) ∧ wr.cell? ⟨b, o + 2, none⟩ = some (.int .i64 x.en.id.1) ∧ wr.cell? ⟨b, o + 3, none⟩ = some (.int .i64 x.en.id.2) ∧ wr.cell? ⟨b, o + 4, none⟩ = some (.int .i64 x.en.bal) ∧ wr.cell? ⟨b, o + 5, none⟩ = some (.int .i64 x.en.st) ∧ wr.cell? ⟨b, o + 6, none⟩ = some (.int .i64 x.en.k) ∧ wr.cell? ⟨b, o + 7, none⟩ = some (.int .i64 x.en.key) ∧ wr.cell? ⟨b, o + 8, none⟩ = some (.int .i64 x.en.v) ∧ wr.cell? ⟨b, o + 9, none⟩ = some (.int .i64 x.en.seq) ∧ wr.cell? ⟨b, o + 10, none⟩ = some (.slice ua un uc)) ∧ (wr.cell? ⟨b', o', none⟩ = some (.int .i64 x.fr) ∧ wr.cell? ⟨b', o' + 1, none⟩ = some (.bool x.kn) ∧ wr.cell? ⟨b', o' + 2, none⟩ = some (.int .i64 x.en.id.1) ∧ wr.cell? ⟨b', o' + 3, none⟩ = some (.int .i64 x.en.id.2) ∧ wr.cell? ⟨b', o' + 4, none⟩ = some (.int .i64 x.en.bal) ∧ wr.cell? ⟨b', o' + 5, none⟩ = some (.int .i64 x.en.st) ∧ wr.cell? ⟨b', o' + 6, none⟩ = some (.int .i64 x.en.k) ∧ wr.cell? ⟨b', o' + 7, none⟩ = some (.int .i64 x.en.key) ∧ wr.cell? ⟨b', o' + 8, none⟩ = some (.int .i64 x.en.v) ∧ wr.cell? ⟨b', o' + 9, none⟩ = some (.int .i64 x.en.seq) ∧ wr.cell? ⟨b', o' + 10, none⟩ = some (.slice va vn vc))) ∧ Below wr.heap.size wr wr from ⟨⟨⟨X.c0, X.c1, X.c2, X.c3, X.c4, X.c5, X.c6, X.c7, X.c8, X.c9, X.c10⟩, X'.c0, X'.c1, X'.c2, X'.c3, X'.c4, X'.c5, X'.c6, X'.c7, X'.c8, X'.c9, X'.c10⟩, Below.refl _ _⟩)
      have se := fun W (hb : Below wr.heap.size wr W) => eqA_any x (.slice ua un uc) (.slice va vn vc) W (X.ids.up hb (Nat.le_refl _)) (X'.ids.up hb (Nat.le_refl _))
      unfold anv at se
      clear X X' hA hA' hu hv
      go_upto_region 6 with fail
      go_region_held3 (fun w' => ((w'.cell? ⟨b, o, none⟩ = some (.int .i64 x.fr) ∧ w'.cell? ⟨b, o + 1, none⟩ = some (.bool x.kn) ∧ w'.cell? ⟨b, o + 2, none⟩ = some (.int .i64 x.en.id.1) ∧ w'.cell? ⟨b, o + 3, none⟩ = some (.int .i64 x.en.id.2) ∧ w'.cell? ⟨b, o + 4, none⟩ = some (.int .i64 x.en.bal) ∧ w'.cell? ⟨b, o + 5, none⟩ = some (.int .i64 x.en.st) ∧ w'.cell? ⟨b, o + 6, none⟩ = some (.int .i64 x.en.k) ∧ w'.cell? ⟨b, o + 7, none⟩ = some (.int .i64 x.en.key) ∧ w'.cell? ⟨b, o + 8, none⟩ = some (.int .i64 x.en.v) ∧ w'.cell? ⟨b, o + 9, none⟩ = some (.int .i64 x.en.seq) ∧ w'.cell? ⟨b, o + 10, none⟩ = some (.slice ua un uc)) ∧ (w'.cell? ⟨b', o', none⟩ = some (.int .i64 x.fr) ∧ w'.cell? ⟨b', o' + 1, none⟩ = some (.bool x.kn) ∧ w'.cell? ⟨b', o' + 2, none⟩ = some (.int .i64 x.en.id.1) ∧ w'.cell? ⟨b', o' + 3, none⟩ = some (.int .i64 x.en.id.2) ∧ w'.cell? ⟨b', o' + 4, none⟩ = some (.int .i64 x.en.bal) ∧ w'.cell? ⟨b', o' + 5, none⟩ = some (.int .i64 x.en.st) ∧ w'.cell? ⟨b', o' + 6, none⟩ = some (.int .i64 x.en.k) ∧ w'.cell? ⟨b', o' + 7, none⟩ = some (.int .i64 x.en.key) ∧ w'.cell? ⟨b', o' + 8, none⟩ = some (.int .i64 x.en.v) ∧ w'.cell? ⟨b', o' + 9, none⟩ = some (.int .i64 x.en.seq) ∧ w'.cell? ⟨b', o' + 10, none⟩ = some (.slice va vn vc))) ∧ Below wr.heap.size wr w') (first | exact qa_drew H0.out | assumption | exact qa_keep (by assumption) (by assumption))
        (first | (go_at_call 23; (with_reducible refine (se _ (by assumption : ((_ ∧ _ ∧ _ ∧ _ ∧ _ ∧ _ ∧ _ ∧ _ ∧ _ ∧ _ ∧ _) ∧ (_ ∧ _ ∧ _ ∧ _ ∧ _ ∧ _ ∧ _ ∧ _ ∧ _ ∧ _ ∧ _)) ∧ Below wr.heap.size wr _).2).mono ?_); rintro e w' ⟨rfl, hb⟩))
      rename_i H3
      have K3 := Lib.hid (show (((_ ∧ _ ∧ _ ∧ _ ∧ _ ∧ _ ∧ _ ∧ _ ∧ _ ∧ _ ∧ _) ∧ (_ ∧ _ ∧ _ ∧ _ ∧ _ ∧ _ ∧ _ ∧ _ ∧ _ ∧ _ ∧ _)) ∧ Below wr.heap.size wr _) from H3).2
      have hR2 := Lib.hid (hnx.out.trans (K3.out.mono hnx.out.size))
      clear H3 H0 se K3 hnx
      go_wp2_with fail
      go_roundw
      case rel => exact ⟨k + 1, by omega, by go_num, hR2⟩
      case measure => simp [intOf]; omega
    · obtain rfl : k = n := by omega
      go_wp2_with fail
      go_ret
      exact ⟨rfl, hnx.out⟩
theorem eqAs_nil (a b : Option Addr) (ca cb : Nat) (w : World) : Calls Try.prog 11 #[.slice a 0 ca, .slice b 0 cb] w fun e w' => e = .returned (.bool true) ∧ Below w.heap.size w w' := by
  go_enter Try.func11, Try.ntmps11
  go_wp2_with fail
  refine wp_loop_rounds 1 ?_
  rw [rounds_succ]
  go_wp2_with fail
  go_ret
  exact ⟨rfl, Below.refl _ _⟩
theorem eqAs_any (u v : Value) (L : List An) (w : World) (hu : Ans w u L) (hv : Ans w v L) : Calls Try.prog 11 #[u, v] w fun e w' => e = .returned (.bool true) ∧ Below w.heap.size w w' := by
  obtain ⟨a, cap, rfl, h1, h2, h3⟩ := hu
  obtain ⟨a', cap', rfl, g1, g2, g3⟩ := hv
  rcases h3 with h3 | ⟨b, off, U, rfl, h4⟩
  · obtain rfl : L = [] := List.length_eq_zero_iff.1 h3
    exact eqAs_nil a a' cap cap' w
  · rcases g3 with g3 | ⟨b', off', U', rfl, g4⟩
    · obtain rfl : L = [] := List.length_eq_zero_iff.1 g3
      exact eqAs_nil _ a' cap cap' w
    · exact eqAs_at b off cap b' off' cap' L U U' w h2 h4 g4
end Go.Proofs.Ytblkpkjgmjnimaa

/- What the frames of laws over slices of answers use. -/
namespace Go.Proofs.Ytblkpkjgmjnimaa
open Go.ChangeShapes Go.WideShapes Go.ChangeAt Go.RowKit Go.Joins Go.Deep
set_option linter.unusedVariables false

theorem cells_lawsAnA : Try.prog.cellsOf 61 = 11 := by kernel_rfl

theorem idsIn_LA {w : World} {ua : Option Addr} {un uc : Nat} (h : IdsIn w ua un uc) : un ≤ maxLen ∧ (1048576 < un ∨ ∃ C, Ids w (.slice ua un uc) C) := ⟨h.1, h.2⟩

set_option maxRecDepth 100000 in
theorem an_of_trod {H : Type} {enc : TypeId × Value → H} {w : World} {fuel : Nat} {l : List Value} {x : DataW H × List MemPlace} (hlen : l.length = 11) (h : DataW.trod enc Try.prog w 0 (fun _ => true) true fuel 61 l = some x) :
    ∃ (f : Int) (kn : Bool) (p r bal st k key v s : Int) (ua : Option Addr) (un uc : Nat), l = [.int .i64 f, .bool kn, .int .i64 p, .int .i64 r, .int .i64 bal, .int .i64 st, .int .i64 k, .int .i64 key, .int .i64 v, .int .i64 s, .slice ua un uc] ∧ IdsIn w ua un uc := by
  obtain ⟨xs, k, hk, hxy, _, hxl, hf⟩ := DataW.trod_struct Try.underlying61 h
  match xs, hxl, l, hlen with
  | [y0, y1, y2], _, [v0, v1, v2, v3, v4, v5, v6, v7, v8, v9, v10], _ =>
    have g0 := hf 0 _ rfl
    have g1 := hf 1 _ rfl
    have g2 := hf 2 _ rfl
    have ci : Try.prog.cellsOf 3 = 1 := by kernel_rfl
    have cb : Try.prog.cellsOf 4 = 1 := by kernel_rfl
    simp [ci, cb, cells_lawsEnR] at g0 g1 g2
    obtain ⟨z0, rfl⟩ := int_of_trodP g0
    obtain ⟨z1, e1, _⟩ := DataW.trod_bool Try.underlying4 g1
    obtain rfl : v1 = .bool z1 := by simpa using e1
    obtain ⟨p, r, bal, st, k, key, v, s, ua, un, uc, e2, hI⟩ := en_of_trod rfl g2
    simp at e2
    obtain ⟨rfl, rfl, rfl, rfl, rfl, rfl, rfl, rfl, rfl⟩ := e2
    exact ⟨z0, z1, p, r, bal, st, k, key, v, s, ua, un, uc, rfl, hI⟩

theorem las_of_fn {w : World} {x : Addr} {len cap : Nat} (hl : len ≤ cap) (hm : cap ≤ maxLen)
    (h : ∀ i, i < len → ∃ (y : An) (ua : Option Addr) (un uc : Nat), (∀ j u, [Value.int .i64 y.fr, .bool y.kn, .int .i64 y.en.id.1, .int .i64 y.en.id.2, .int .i64 y.en.bal, .int .i64 y.en.st, .int .i64 y.en.k, .int .i64 y.en.key, .int .i64 y.en.v, .int .i64 y.en.seq, .slice ua un uc][j]? = some u → w.cell? (x.add (i * 11 + j)) = some u) ∧ IdsIn w ua un uc) :
    LAs w (some x) len cap := by
  refine ⟨Nat.le_trans hl hm, hl, ?_⟩
  by_cases h0 : len = 0
  · exact .inl h0
  · obtain ⟨b, off, spot⟩ := x
    obtain ⟨e, ua, un, uc, hc, _⟩ := h 0 (by omega)
    have hc0 := hc 0 _ rfl
    have hspot : spot = none := by simpa [Addr.add] using World.cell?_spot hc0
    subst hspot
    have ea : ∀ j, (⟨b, off, none⟩ : Addr).add j = ⟨b, off + j, none⟩ := fun j => by unfold Addr.add; split <;> simp_all
    refine .inr ⟨b, off, rfl, ?_, fun i hi => ?_⟩
    · have := World.block_lt_of_cell? w _ hc0
      simpa [Addr.add] using this
    · obtain ⟨y, ua, un, uc, hc, hI⟩ := h i hi
      have c := fun j u (hj : [Value.int .i64 y.fr, .bool y.kn, .int .i64 y.en.id.1, .int .i64 y.en.id.2, .int .i64 y.en.bal, .int .i64 y.en.st, .int .i64 y.en.k, .int .i64 y.en.key, .int .i64 y.en.v, .int .i64 y.en.seq, .slice ua un uc][j]? = some u) => by
        have := hc j u hj
        rw [ea, ← Nat.add_assoc] at this
        exact this
      exact ⟨y, ua, un, uc, c 0 _ rfl, c 1 _ rfl, c 2 _ rfl, c 3 _ rfl, c 4 _ rfl, c 5 _ rfl, c 6 _ rfl, c 7 _ rfl, c 8 _ rfl, c 9 _ rfl, c 10 _ rfl, hI.1, hI.2⟩

set_option maxRecDepth 100000 in
theorem las_of_trod {H : Type} {enc : TypeId × Value → H} {w : World} {fuel : Nat} {a : Option Addr} {len cap : Nat} {x : DataW H × List MemPlace} (h : DataW.trod enc Try.prog w 0 (fun _ => true) true fuel 31 [.slice a len cap] = some x) : LAs w a len cap := by
  rcases open_slice Try.underlying31 h with ⟨hcs, _⟩ | ⟨a', len', cap', m, n, D, Pl, hcs, _, hl, hm, hmm, _, hx⟩
  · simp at hcs
    obtain ⟨rfl, rfl, rfl⟩ := hcs
    exact ⟨Nat.zero_le _, Nat.le_refl _, .inl rfl⟩
  · simp at hcs
    obtain ⟨rfl, rfl, rfl⟩ := hcs
    simp at hmm
    subst hmm
    refine las_of_fn hl hm fun i hi => ?_
    obtain ⟨cs', h1, h2⟩ := hx i (by omega)
    rw [cells_lawsAnA] at h1
    obtain ⟨_, hlen, hcell⟩ := World.cells?_some h1
    obtain ⟨f, kn, p, r, bal, st, k, key, v, s, ua, un, uc, rfl, hI⟩ := an_of_trod hlen h2
    refine ⟨⟨f, kn, ⟨(p, r), bal, st, k, key, v, s, []⟩⟩, ua, un, uc, fun j u hj => ?_, hI⟩
    have hj9 : j < 11 := by
      rcases Nat.lt_or_ge j 11 with hlt | hge
      · exact hlt
      · rw [List.getElem?_eq_none (by simpa using hge)] at hj; cases hj
    have e0 := hcell j (by simpa using hj9)
    rw [add_add] at e0
    rw [e0]
    exact hj
end Go.Proofs.Ytblkpkjgmjnimaa
