/- Texts laid together. -/
import Derived.Test.YtblkpkjgmjnimaaC19
import Derived.Test.YtblkpkjgmjnimaaC23
import Derived.Test.YtblkpkjgmjnimaaC18
import Derived.Test.YtblkpkjgmjnimaaC21
/- spec.AnswersValid of any answers: what XSav says, and the empty row. -/
namespace Go.Proofs.Ytblkpkjgmjnimaa
open Go.RowKit
set_option linter.unusedVariables false

theorem sava_nil (a' : Option Addr) (ca : Nat) (n : Int) (a : Pid) (w : World) :
    Calls Try.prog 7 #[.int .i64 n, .agg #[.int .i64 a.1, .int .i64 a.2], .slice a' 0 ca] w fun e w' => e = .returned (.bool (avB n a [])) ∧ Below w.heap.size w w' := by
  have A := Lib.hid (heap_alloc_new w (.cells #[.int .i64 a.1, .int .i64 a.2] 24))
  have D := Lib.hid ((Below.refl w.heap.size w).alloc (Nat.le_refl _) (.cells #[.int .i64 a.1, .int .i64 a.2] 24))
  obtain ⟨R, hR⟩ : ∃ q, Hid (avB n a [] = q) := ⟨_, Lib.hid rfl⟩
  rw [hR.out]
  go_enter Try.func7, Try.ntmps7
  go_upto_region 1 with fail
  obtain ⟨ab, hab⟩ : ∃ c, Hid (w.heap.size = c) := ⟨_, Lib.hid rfl⟩
  rw [hab.out] at A ⊢
  generalize w.alloc (.cells #[.int .i64 a.1, .int .i64 a.2] 24) = w1 at A D ⊢
  go_wp2_with fail
  refine (in_any n 1 5 _).mono ?_
  rintro e w2 ⟨rfl, rfl⟩
  by_cases hn : 1 ≤ n ∧ n ≤ 5
  · rw [inB_t hn.1 hn.2]
    obtain ⟨z0, z1, _, _⟩ := blk2 A.out
    have zl := lt_of_heap A.out
    go_wp2_with fail
    refine (svid_any a.1 a.2 _).mono ?_
    rintro e w3 ⟨rfl, B⟩
    replace D := Lib.hid (bstep D.out B)
    clear B z0 z1 zl A
    obtain ⟨p, hp⟩ : ∃ q, Hid (idB a.1 a.2 = q) := ⟨_, Lib.hid rfl⟩
    rw [hp.out]
    have hn := Lib.hid hn
    cases p
    · have hR2 := Lib.hid (hR.out.symm.trans (avB_no (n := n) (a := a) (L := []) (fun g => by have := g.2.1; unfold okP at this; rw [hp.out] at this; cases this)))
      go_wp2_with fail
      go_ret
      exact ⟨by rw [hR2.out]; rfl, D.out⟩
    · have hR2 := Lib.hid (hR.out.symm.trans (avB_yes (n := n) (a := a) (L := []) ⟨hn.out, hp.out, fun i hi => absurd hi (Nat.not_lt_zero _), fun i j hi => absurd hi (Nat.not_lt_zero _)⟩))
      go_wp2_with fail
      refine wp_loop_rounds 1 ?_
      rw [rounds_succ]
      go_wp2_with fail
      go_ret
      exact ⟨by rw [hR2.out]; rfl, D.out⟩
  · rw [show inB n 1 5 = false from decide_eq_false hn]
    have hR2 := Lib.hid (hR.out.symm.trans (avB_no (n := n) (a := a) (L := []) (fun g => hn g.1)))
    go_wp2_with fail
    go_ret
    exact ⟨by rw [hR2.out]; rfl, D.out⟩
theorem sava_any (u : Value) (n : Int) (a : Pid) (L : List An) (w : World) (h : Ans w u L) :
    Calls Try.prog 7 #[.int .i64 n, .agg #[.int .i64 a.1, .int .i64 a.2], u] w fun e w' => e = .returned (.bool (avB n a L)) ∧ Below w.heap.size w w' := by
  obtain ⟨a', cap, rfl, h1, h2, h3⟩ := h
  rcases h3 with h3 | ⟨b, off, U, rfl, h4⟩
  · obtain rfl : L = [] := List.length_eq_zero_iff.1 h3
    exact sava_nil a' cap n a w
  · exact sava_at b off cap n a L U w h2 h4
end Go.Proofs.Ytblkpkjgmjnimaa

/- The walk of FnExactAnswersValid. -/
namespace Go.Proofs.Ytblkpkjgmjnimaa
open Go.RowKit
set_option linter.unusedVariables false

theorem LAs.up {w w' : World} {B : Nat} {a : Option Addr} {len cap : Nat} (h : LAs w a len cap) (hb : Below B w w') (hB : w.heap.size ≤ B) : LAs w' a len cap := by
  obtain ⟨h1, h2, h3⟩ := h
  refine ⟨h1, h2, ?_⟩
  rcases h3 with h3 | ⟨b, off, rfl, hl, hc⟩
  · exact .inl h3
  · refine .inr ⟨b, off, rfl, Nat.lt_of_lt_of_le hl hb.size, fun i hi => ?_⟩
    obtain ⟨x, ua, un, uc, e0, e1, e2, e3, e4, e5, e6, e7, e8, e9, e10, e11, e12⟩ := hc i hi
    have hcc : ∀ o, w'.cell? ⟨b, o, none⟩ = w.cell? ⟨b, o, none⟩ := fun o => hb.cell (p := ⟨b, o, none⟩) (Nat.lt_of_lt_of_le hl hB)
    exact ⟨x, ua, un, uc, by rw [hcc]; exact e0, by rw [hcc]; exact e1, by rw [hcc]; exact e2, by rw [hcc]; exact e3, by rw [hcc]; exact e4, by rw [hcc]; exact e5, by rw [hcc]; exact e6, by rw [hcc]; exact e7, by rw [hcc]; exact e8, by rw [hcc]; exact e9, by rw [hcc]; exact e10, e11, e12.imp id fun ⟨C, hC⟩ => ⟨C, hC.up hb hB⟩⟩

theorem fnExactAnswersValid_walk (n r c : Int) (a : Option Addr) (len cap : Nat) (w : World) (h : LAs w a len cap) :
    Calls Try.prog 4 #[.int .i64 n, .agg #[.int .i64 r, .int .i64 c], .slice a len cap] w fun e w' => e = .returned (.bool true) ∧ Below w.heap.size w w' := by
  have A := Lib.hid (heap_alloc_new w (.cells #[.int .i64 r, .int .i64 c] 30))
  have BA := (Below.refl w.heap.size w).alloc (Nat.le_refl _) (.cells #[.int .i64 r, .int .i64 c] 30)
  have D := Lib.hid BA
  have h := Lib.hid (h.up BA (Nat.le_refl _))
  clear BA
  go_enter Try.func4, Try.ntmps4
  go_upto_region 2 with fail
  obtain ⟨ab, hab⟩ : ∃ c, Hid (w.heap.size = c) := ⟨_, Lib.hid rfl⟩
  rw [hab.out] at A ⊢
  generalize w.alloc (.cells #[.int .i64 r, .int .i64 c] 30) = w1 at A D h ⊢
  have hal := lt_of_heap A.out
  have sz := szAs_any a len cap w1 h.out
  go_wp2_with fail
  refine sz.mono ?_
  rintro e w2 ⟨⟨z, rfl, hz⟩, B⟩
  replace A := Lib.hid (bblk B hal A.out)
  replace D := Lib.hid (bstep D.out B)
  clear h sz hal
  rcases hz with rfl | ⟨hz0, hz1, L, hL, hA⟩
  · clear B
    go_wp2_with fail
    go_ret
    exact ⟨rfl, D.out⟩
  · have hA := Lib.hid (hA.up B (Nat.le_refl _))
    clear B
    have hal := lt_of_heap A.out
    obtain ⟨z0, z1, _, _⟩ := blk2 A.out
    go_wp2_with fail
    refine (toId_any r c _).mono ?_
    rintro e w3 ⟨rfl, B⟩
    replace A := Lib.hid (bblk B hal A.out)
    replace D := Lib.hid (bstep D.out B)
    replace hA := Lib.hid (hA.out.up B (Nat.le_refl _))
    clear B hal z0 z1
    go_wp2_with fail
    refine (toAs_any _ L _ hA.out).mono ?_
    rintro e w4 ⟨v4, rfl, h4, B⟩
    replace A := Lib.hid (bblk B (lt_of_heap A.out) A.out)
    replace D := Lib.hid (bstep D.out B)
    replace hA := Lib.hid (hA.out.up B (Nat.le_refl _))
    clear B
    have sv := sava_any v4 n (r, c) L w4 h4
    clear h4
    obtain ⟨R, hR⟩ : ∃ q, Hid (avB n (r, c) L = q) := ⟨_, Lib.hid rfl⟩
    rw [hR.out] at sv
    dsimp only at sv
    go_wp2_with fail
    refine sv.mono ?_
    rintro e w5 ⟨rfl, B⟩
    replace A := Lib.hid (bblk B (lt_of_heap A.out) A.out)
    replace D := Lib.hid (bstep D.out B)
    replace hA := Lib.hid (hA.out.up B (Nat.le_refl _))
    clear B sv
    go_wp2_with fail
    refine (toAs_any _ L _ hA.out).mono ?_
    rintro e w6 ⟨v6, rfl, h6, B⟩
    replace A := Lib.hid (bblk B (lt_of_heap A.out) A.out)
    replace D := Lib.hid (bstep D.out B)
    replace hA := Lib.hid (hA.out.up B (Nat.le_refl _))
    have h6 := Lib.hid h6
    clear B
    have hal := lt_of_heap A.out
    obtain ⟨z0, z1, _, _⟩ := blk2 A.out
    go_wp2_with fail
    refine (toId_any r c _).mono ?_
    rintro e w7 ⟨rfl, B⟩
    replace D := Lib.hid (bstep D.out B)
    replace hA := Lib.hid (hA.out.up B (Nat.le_refl _))
    replace h6 := Lib.hid (h6.out.up B (Nat.le_refl _))
    clear B hal z0 z1 A
    have iv := iava_any v6 n (r, c) L w7 h6.out
    rw [hR.out] at iv
    dsimp only at iv
    go_wp2_with fail
    refine iv.mono ?_
    rintro e w8 ⟨rfl, B⟩
    replace D := Lib.hid (bstep D.out B)
    replace hA := Lib.hid (hA.out.up B (Nat.le_refl _))
    replace h6 := Lib.hid (h6.out.up B (Nat.le_refl _))
    clear B iv
    have hRR : (R != R) = false := by cases R <;> rfl
    go_wp2_with fail
    all_goals
      refine (toAs_any _ L _ hA.out).mono ?_
      rintro e w9 ⟨v9, rfl, h9, B⟩
      replace D := Lib.hid (bstep D.out B)
      replace h6 := Lib.hid (h6.out.up B (Nat.le_refl _))
      clear B
      have eq := eqAs_any v6 v9 L w9 h6.out h9
      go_wp2_with fail
      refine eq.mono ?_
      rintro e w10 ⟨rfl, B⟩
      replace D := Lib.hid (bstep D.out B)
      clear B
      go_wp2_with fail
      go_ret
      exact ⟨rfl, D.out⟩
end Go.Proofs.Ytblkpkjgmjnimaa
