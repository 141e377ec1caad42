/- The model's DepsJoin. -/
import Derived.Test.YtbhjglapfiegaaaDoorSjoin
import Derived.Test.YtbhjglapfiegaaaDoorDjoin
namespace Go.Proofs.YtbhjglapfiegaaaDoor
open Go.RowKit
set_option linter.unusedVariables false

set_option maxHeartbeats 4000000 in
theorem sdj_any (u v : Value) (A B : List Pid) (w : World) (h : Ids w u A) (g : Ids w v B) :
    Calls Tryd.prog 13 #[u, v] w (JoinPost (joinR A B) w) := by
  have h := Lib.hid h
  have g := Lib.hid g
  obtain ⟨qa, hqa⟩ : ∃ q, Hid (srtB A = q) := ⟨_, Lib.hid rfl⟩
  obtain ⟨qb, hqb⟩ : ∃ q, Hid (srtB B = q) := ⟨_, Lib.hid rfl⟩
  obtain ⟨S, fl, hR⟩ : ∃ S fl, Hid (joinR A B = (S, fl)) := ⟨_, _, Lib.hid rfl⟩
  rw [hR.out]
  have s1 := fun w h => sval_any u A w h
  rw [hqa.out] at s1
  cases qa
  · have hR2 := hR.out
    rw [joinR_1 hqa.out] at hR2
    injection hR2 with hS hfl
    subst hS hfl
    go_enter Tryd.func13, Tryd.ntmps13
    go_wp2_with fail
    refine (s1 _ h.out).mono ?_
    rintro e w1 ⟨rfl, hb⟩
    have D1 := Lib.hid hb
    have s4 := hb.size
    have N1 := Lib.hid (ownP_nil w1 31)
    clear hb h g
    go_wp2_with fail
    go_ret2
    exact ⟨w1.heap.size, _, s4, rfl, N1.out, D1.out.alloc D1.out.size _⟩
  · have s2 := fun w h => sval_any v B w h
    rw [hqb.out] at s2
    cases qb
    · have hR2 := hR.out
      rw [joinR_2 hqb.out] at hR2
      injection hR2 with hS hfl
      subst hS hfl
      go_enter Tryd.func13, Tryd.ntmps13
      go_wp2_with fail
      refine (s1 _ h.out).mono ?_
      rintro e w1 ⟨rfl, hb⟩
      replace g := Lib.hid (g.out.up hb (Nat.le_refl _))
      have D := Lib.hid hb
      clear hb h
      go_wp2_with fail
      refine (s2 _ g.out).mono ?_
      rintro e w2 ⟨rfl, hb⟩
      replace D := Lib.hid (bstep D.out hb)
      have s4 := D.out.size
      have N1 := Lib.hid (ownP_nil w2 31)
      clear hb g
      go_wp2_with fail
      go_ret2
      exact ⟨w2.heap.size, _, s4, rfl, N1.out, D.out.alloc D.out.size _⟩
    · have hla : A.length ≤ 12 := (srt_of hqa.out).1
      have hlb : B.length ≤ 12 := (srt_of hqb.out).1
      have hla := Lib.hid hla
      have hlb := Lib.hid hlb
      go_enter Tryd.func13, Tryd.ntmps13
      go_wp2_with fail
      refine (s1 _ h.out).mono ?_
      rintro e w1 ⟨rfl, hb⟩
      replace h := Lib.hid (h.out.up hb (Nat.le_refl _))
      replace g := Lib.hid (g.out.up hb (Nat.le_refl _))
      have D := Lib.hid hb
      clear hb
      go_wp2_with fail
      refine (s2 _ g.out).mono ?_
      rintro e w2 ⟨rfl, hb⟩
      replace h := Lib.hid (h.out.up hb (Nat.le_refl _))
      replace g := Lib.hid (g.out.up hb (Nat.le_refl _))
      replace D := Lib.hid (bstep D.out hb)
      clear hb
      go_wp2_with fail
      refine (l4_any u v A B _ h.out g.out hla.out hlb.out).mono ?_
      rintro e w3 ⟨bb, uu, hbb, rfl, hO, hb⟩
      have hbb2 := Nat.le_trans D.out.size hbb
      replace D := Lib.hid (bstep D.out hb)
      obtain ⟨cp, hv, hcp⟩ := hO.shape
      have hjl : (joinP A B).length ≤ 24 := by
        have := joinP_len A B
        have := hla.out; have := hlb.out; omega
      have h3 := fun hl => joinR_t (a := A) (b := B) hqa.out hqb.out hl
      have h4 := fun hl => joinR_3 (a := A) (b := B) hl
      rw [hR.out] at h3 h4
      have h3 := Lib.hid h3
      have h4 := Lib.hid h4
      generalize joinP A B = J at hO hv hcp hjl h3 h4
      subst hv
      have hO := Lib.hid hO
      clear hb h g
      by_cases h12 : J.length ≤ 12
      · have hR2 := h3.out h12
        injection hR2 with hS hfl
        subst hfl hS
        have h12' : ¬ 12 < S.length := by omega
        clear h3 h4
        go_wp2_with fail
        go_ret2
        exact ⟨bb, _, hbb2, rfl, hO.out, D.out⟩
      · have hR2 := h4.out h12
        injection hR2 with hS hfl
        subst hS hfl
        have h12' : 12 < J.length := by omega
        have s4 := D.out.size
        have N1 := Lib.hid (ownP_nil w3 31)
        clear h3 h4
        go_wp2_with fail
        go_ret2
        exact ⟨w3.heap.size, _, s4, rfl, N1.out, D.out.alloc D.out.size _⟩
end Go.Proofs.YtbhjglapfiegaaaDoor
