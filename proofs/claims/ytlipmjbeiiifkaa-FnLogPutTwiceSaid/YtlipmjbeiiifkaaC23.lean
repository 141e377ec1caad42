/- Texts laid together. -/
import Derived.Test.YtlipmjbeiiifkaaC05
import Derived.Test.YtlipmjbeiiifkaaC17
import Derived.Test.YtlipmjbeiiifkaaC21
/- The walk of FnLogPutTwice. -/
namespace Go.Proofs.Ytlipmjbeiiifkaa
open Go.RowKit
set_option linter.unusedVariables false

theorem put_twice {X : En} {E : List En} (h : Asc (idsE E)) : putE X (putE X E) = putE X E := by
  refine ens_ext (putE_asc (putE_asc h)) (putE_asc h) fun x => ?_
  rw [mem_putE]
  constructor
  · rintro (rfl | ⟨h1, _⟩)
    · exact mem_putE.2 (.inl rfl)
    · exact h1
  · intro h1
    rcases mem_putE.1 h1 with e | ⟨h2, h3⟩
    · exact .inl e
    · exact .inr ⟨h1, h3⟩

set_option maxRecDepth 100000 in
set_option maxHeartbeats 8000000 in
theorem fnLogPutTwice_walk (a : Option Addr) (len cap : Nat) (w : World) (hc : CodeIn w a len cap) (hcap : cap ≤ maxLen) :
    Calls Try.prog 4 #[.slice a len cap] w fun e w' => e = .returned (.bool true) ∧ Below w.heap.size w w' := by
  have dn := dlp_any a len cap w hc hcap
  by_cases hlen : 1048576 < len
  · go_enter Try.func4, Try.ntmps4
    go_wp2_with fail
    go_ret
    exact ⟨rfl, Below.refl _ _⟩
  · go_enter Try.func4, Try.ntmps4
    go_wp2_with fail
    refine dn.mono ?_
    rintro e w1 ⟨v, E, X, u, b, rfl, O, hl, hin, _, hO, hd, B⟩
    obtain ⟨xa, xn, xc, rfl⟩ : ∃ ua un uc, u = .slice ua un uc := by obtain ⟨c, e, _⟩ := hO.shape; exact ⟨_, _, _, e⟩
    obtain ⟨g, cp, hv⟩ := O.len
    subst hv
    have BA := (Below.refl w1.heap.size w1).alloc (Nat.le_refl _) (.cells #[.int .i64 X.id.1, .int .i64 X.id.2, .int .i64 X.bal, .int .i64 X.st, .int .i64 X.k, .int .i64 X.key, .int .i64 X.v, .int .i64 X.seq, .slice xa xn xc] 30)
    have G2 := Lib.hid (show BxE (w1.alloc (.cells #[.int .i64 X.id.1, .int .i64 X.id.2, .int .i64 X.bal, .int .i64 X.st, .int .i64 X.k, .int .i64 X.key, .int .i64 X.v, .int .i64 X.seq, .slice xa xn xc] 30)) w1.heap.size X (.slice xa xn xc) from heap_alloc_new _ _)
    have O2 := Lib.hid (O.up BA)
    have I2 := Lib.hid ((hO.up BA hO.lt).read)
    have D := Lib.hid (bstep B BA)
    clear BA B O dn hO
    unfold env
    go_upto_region 4 with fail
    obtain ⟨eb, hx2⟩ : ∃ c, Hid (w1.heap.size = c) := ⟨_, Lib.hid rfl⟩
    rw [hx2.out] at G2 ⊢
    generalize w1.alloc (.cells #[.int .i64 X.id.1, .int .i64 X.id.2, .int .i64 X.bal, .int .i64 X.st, .int .i64 X.k, .int .i64 X.key, .int .i64 X.v, .int .i64 X.seq, .slice xa xn xc] 30) = w2 at G2 O2 I2 D ⊢
    clear hx2
    have iv := ilput_any _ E X (.slice xa xn xc) w2 O2.out.read I2.out
    have sv := fun W (hb : Below w2.heap.size w2 W) => slput_any _ E X (.slice xa xn xc) W (O2.out.read.up hb (Nat.le_refl _)) (I2.out.up hb (Nat.le_refl _))
    obtain ⟨⟨N, q⟩, hR⟩ : ∃ r, Hid (lputR E X = r) := ⟨_, Lib.hid rfl⟩
    unfold LpZ at iv
    unfold LpP at sv
    rw [hR.out] at iv sv
    dsimp only at iv sv
    unfold env at iv sv
    obtain ⟨n, hn⟩ : ∃ n, Hid (E.length = n) := ⟨_, Lib.hid rfl⟩
    rw [hn.out] at iv sv O2 hl ⊢
    obtain ⟨⟨y0, y1, y2, y3, y4, y5, y6, y7, y8⟩, ys⟩ := G2.out.cells
    go_wp2_with fail
    refine iv.mono ?_
    rintro e w3 ⟨⟨v5, rfl, O5⟩, F3⟩
    obtain ⟨g5, c5, hv5, _⟩ := O5.shape
    subst hv5
    have O5 := Lib.hid O5.read
    have F3 := Lib.hid F3
    have G3 := Lib.hid (G2.out.up F3.out)
    clear iv y0 y1 y2 y3 y4 y5 y6 y7 y8 ys
    obtain ⟨⟨y0, y1, y2, y3, y4, y5, y6, y7, y8⟩, ys⟩ := G3.out.cells
    go_wp2_with fail
    refine (sv _ F3.out).mono ?_
    rintro e w4 ⟨⟨v7, rfl, O7⟩, B⟩
    obtain ⟨g7, c7, hv7⟩ := O7.len
    subst hv7
    have O7 := Lib.hid O7.read
    replace O5 := Lib.hid (O5.out.up B (Nat.le_refl _))
    have F4 := Lib.hid (bstep F3.out B)
    have G4 := Lib.hid (G3.out.up B)
    clear sv B G3 F3 y0 y1 y2 y3 y4 y5 y6 y7 y8 ys
    have sm := fun W (hb : Below w4.heap.size w4 W) => smL_any _ _ N W (O5.out.up hb (Nat.le_refl _)) (O7.out.up hb (Nat.le_refl _))
    obtain ⟨m, hm⟩ : ∃ m, Hid (N.length = m) := ⟨_, Lib.hid rfl⟩
    have hm12 : m ≤ 12 := by have := lputR_len E X; rw [hR.out] at this; rw [← hm.out]; exact this
    rw [hm.out] at sm O5 O7 ⊢
    go_wp2_with fail
    refine (sm _ (Below.refl _ _)).mono ?_
    rintro e w5 ⟨rfl, B⟩
    have B5 := Lib.hid B
    have F5 := Lib.hid (bstep F4.out B)
    clear B
    cases q
    · go_wp2_with fail
      refine (sm _ B5.out).mono ?_
      rintro e w6 ⟨rfl, B⟩
      replace D := Lib.hid (bstep D.out (bstep F5.out B))
      clear B sm
      go_wp2_with fail
      go_ret
      exact ⟨rfl, D.out⟩
    · clear O7
      have hP := lputR_is (E := E) (X := X) (by rw [hR.out])
      rw [hR.out] at hP
      obtain ⟨hNp, hlog, henB, hN12⟩ := hP
      dsimp only at hNp
      have hasc := (log_of hlog).2.2
      have hlogN := putE_valid hlog henB hN12
      have h2 := put_twice (X := X) hasc
      have hle : Hid (m ≤ n + 1) := Lib.hid (by
        have := putE_len (e := X) hasc
        rw [← hNp, hm.out, hn.out] at this
        split at this <;> omega)
      rw [← hNp] at hlogN h2 hN12
      have hR2 : Hid (lputR N X = (N, true)) := Lib.hid (by rw [lputR_good hlogN henB (by rw [h2]; exact hN12), h2])
      clear hNp hlog henB hN12 hasc hlogN h2
      have O6 := Lib.hid (O5.out.up B5.out (Nat.le_refl _))
      have G6 := Lib.hid (G4.out.up B5.out)
      have I6 := Lib.hid (I2.out.up F5.out (Nat.le_refl _))
      obtain ⟨⟨y0, y1, y2, y3, y4, y5, y6, y7, y8⟩, ys⟩ := G6.out.cells
      have iv := ilput_any _ N X (.slice xa xn xc) w5 O6.out I6.out
      unfold LpZ at iv
      rw [hR2.out] at iv
      dsimp only at iv
      unfold env at iv
      go_wp2_with fail
      refine iv.mono ?_
      rintro e w6 ⟨⟨v9, rfl, O9⟩, B⟩
      obtain ⟨g9, c9, hv9, _⟩ := O9.shape
      subst hv9
      have O9 := Lib.hid O9.read
      replace O6 := Lib.hid (O6.out.up B (Nat.le_refl _))
      have D6 := Lib.hid (bstep D.out (bstep F5.out B))
      clear iv B y0 y1 y2 y3 y4 y5 y6 y7 y8 ys G6 G4 G2 I6 I2 sm F5 F4 B5 D
      have sm := smL_any _ _ N w6 O9.out O6.out
      rw [hm.out] at sm ⊢
      have hle := hle.out
      have hsub : (m : Int) - (n : Int) ≤ 1 := by omega
      go_wp2_with fail
      refine sm.mono ?_
      rintro e w7 ⟨rfl, B⟩
      have D7 := Lib.hid (bstep D6.out B)
      clear B sm
      go_wp2_with fail
      go_ret
      exact ⟨rfl, D7.out⟩
end Go.Proofs.Ytlipmjbeiiifkaa
