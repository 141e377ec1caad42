/- Texts laid together. -/
import Derived.Test.YtdikcenhakfheaaGreatDoorC12
import Derived.Test.YtdikcenhakfheaaGreatDoorC05
/- The program's DepsJoin. -/
namespace Go.Proofs.YtdikcenhakfheaaGreatDoor
open Go.RowKit
set_option linter.unusedVariables false

/-- What a join leaves. -/
def JoinPost (R : List Pid × Bool) (w : World) (e : Ending) (w' : World) : Prop :=
  ∃ b u, w.heap.size ≤ b ∧ e = .returned (.tuple #[u, .bool R.2]) ∧ OwnP w' b u R.1 ∧ Below w.heap.size w w'

theorem joinF_lt {f g : Nat → Nat} (hf : ∀ r, f r < 2251799813685248) (hg : ∀ r, g r < 2251799813685248) (r : Nat) : joinF f g r < 2251799813685248 :=
  Nat.or_lt_two_pow (n := 51) (hf r) (hg r)

set_option maxRecDepth 100000 in
set_option maxHeartbeats 4000000 in
theorem djoin_any (u v : Value) (A B : List Pid) (w : World) (h : Ids w u A) (g : Ids w v B) (hT : TabIn w) :
    Calls Tryz.prog 17 #[u, v] w (JoinPost (joinR A B) w) := by
  have h := Lib.hid h
  have g := Lib.hid g
  have hT := Lib.hid hT
  have sj := fun w => join_any (setF A) (setF B) w (setF_lt A) (setF_lt B)
  have sm := fun w => many_any (joinF (setF A) (setF B)) w (joinF_lt (setF_lt A) (setF_lt B))
  have si := fun w h => idso_any (joinF (setF A) (setF B)) w (joinF_lt (setF_lt A) (setF_lt B)) h
  have hval : Hid (srtB A = true → srtB B = true → idsO (joinF (setF A) (setF B)) = joinP A B) := Lib.hid idsO_join
  have hlen := idsO_len (joinF (setF A) (setF B))
  obtain ⟨f, hf⟩ : ∃ f, Hid (setF A = f) := ⟨_, Lib.hid rfl⟩
  obtain ⟨f', hf'⟩ : ∃ f', Hid (setF B = f') := ⟨_, Lib.hid rfl⟩
  rw [hf.out, hf'.out] at sj sm si hval hlen
  obtain ⟨j, hj⟩ : ∃ j, Hid (joinF f f' = j) := ⟨_, Lib.hid rfl⟩
  rw [hj.out] at sj sm si hval hlen
  obtain ⟨mn, hmn⟩ : ∃ n, Hid (manyN j = n) := ⟨_, Lib.hid rfl⟩
  rw [hmn.out] at sm hlen
  clear hmn
  have hlen := Lib.hid hlen
  obtain ⟨qa, hqa⟩ : ∃ q, Hid (srtB A = q) := ⟨_, Lib.hid rfl⟩
  obtain ⟨qb, hqb⟩ : ∃ q, Hid (srtB B = q) := ⟨_, Lib.hid rfl⟩
  obtain ⟨S, fl, hR⟩ : ∃ S fl, Hid (joinR A B = (S, fl)) := ⟨_, _, Lib.hid rfl⟩
  rw [hR.out]
  unfold setV at sj sm si
  go_enter Tryz.func17, Tryz.ntmps17
  go_wp2_with fail
  refine (iset_any u A _ h.out).mono ?_
  rintro e w1 ⟨rfl, hb⟩
  rw [hf.out, hqa.out]
  have D1 := Lib.hid (hb.alloc hb.size (.cells #[.int .u64 (f 0), .int .u64 (f 1), .int .u64 (f 2), .int .u64 (f 3), .int .u64 (f 4)] 74))
  have A1 : Hid (Set5 (w1.alloc (.cells #[.int .u64 (f 0), .int .u64 (f 1), .int .u64 (f 2), .int .u64 (f 3), .int .u64 (f 4)] 74)) w1.heap.size f) := Lib.hid (heap_alloc_new w1 _)
  have g1 := Lib.hid (g.out.up D1.out (Nat.le_refl _))
  clear hb h g
  unfold setV
  go_wp2_with fail
  refine (iset_any v B _ g1.out).mono ?_
  rintro e w2 ⟨rfl, hb⟩
  rw [hf'.out, hqb.out]
  unfold setV
  have hs1 : w1.heap.size < w2.heap.size := Nat.lt_of_lt_of_le (by simp) hb.size
  have A2 := A1.out.up hb (by simp)
  have A3 := A2.up ((Below.refl _ _).alloc (Nat.le_refl _) (.cells #[.int .u64 (f' 0), .int .u64 (f' 1), .int .u64 (f' 2), .int .u64 (f' 3), .int .u64 (f' 4)] 74)) hs1
  have B3 : Set5 (w2.alloc (.cells #[.int .u64 (f' 0), .int .u64 (f' 1), .int .u64 (f' 2), .int .u64 (f' 3), .int .u64 (f' 4)] 74)) w2.heap.size f' := heap_alloc_new w2 _
  have D2 := bstep D1.out hb
  have D2 := Lib.hid (D2.alloc D2.size (.cells #[.int .u64 (f' 0), .int .u64 (f' 1), .int .u64 (f' 2), .int .u64 (f' 3), .int .u64 (f' 4)] 74))
  obtain ⟨x0, x1, x2, x3, x4⟩ := A2.five
  clear hb A1 A2 A3 B3 D1 g1
  go_wp2_with fail
  refine (sj _).mono ?_
  rintro e w3 ⟨rfl, hb⟩
  have D3 := bstep D2.out hb
  have C3 : Hid (Set5 (w3.alloc (.cells #[.int .u64 (j 0), .int .u64 (j 1), .int .u64 (j 2), .int .u64 (j 3), .int .u64 (j 4)] 74)) w3.heap.size j) := Lib.hid (heap_alloc_new w3 _)
  have N3 := Lib.hid (ownP_nil (w3.alloc (.cells #[.int .u64 (j 0), .int .u64 (j 1), .int .u64 (j 2), .int .u64 (j 3), .int .u64 (j 4)] 74)) 25)
  have hs3 := D3.size
  have D3 := Lib.hid (D3.alloc D3.size (.cells #[.int .u64 (j 0), .int .u64 (j 1), .int .u64 (j 2), .int .u64 (j 3), .int .u64 (j 4)] 74))
  clear hb D2 sj x0 x1 x2 x3 x4
  cases qa
  · have hR2 := hR.out
    rw [joinR_1 hqa.out] at hR2
    injection hR2 with hS hfl
    subst hS hfl
    clear sm si hval hlen
    go_wp2_with fail
    go_ret2
    exact ⟨w3.heap.size + 1, _, by omega, rfl, by simpa using N3.out, D3.out.alloc D3.out.size _⟩
  · cases qb
    · have hR2 := hR.out
      rw [joinR_2 hqb.out] at hR2
      injection hR2 with hS hfl
      subst hS hfl
      clear sm si hval hlen
      go_wp2_with fail
      go_ret2
      exact ⟨w3.heap.size + 1, _, by omega, rfl, by simpa using N3.out, D3.out.alloc D3.out.size _⟩
    · have hv := hval.out hqa.out hqb.out
      have hl := hlen.out
      rw [hv] at hl
      by_cases h12 : mn ≤ 12
      · have hR2 := hR.out
        rw [joinR_t hqa.out hqb.out (by rw [hl]; exact h12)] at hR2
        injection hR2 with hS hfl
        subst hfl
        have hS := Lib.hid hS
        have hv := Lib.hid hv
        have h12' : ¬ 12 < mn := by omega
        clear hlen hval hl N3
        go_wp2_with fail
        refine (sm _).mono ?_
        rintro e w4 ⟨rfl, hb⟩
        have D4 := Lib.hid (bstep D3.out hb)
        have C4 := C3.out.up hb (by simp)
        obtain ⟨x0, x1, x2, x3, x4⟩ := C4.five
        clear hb D3 C3 C4 sm
        go_wp2_with fail
        refine (si _ (hT.out.up D4.out (Nat.le_refl _))).mono ?_
        rintro e w5 ⟨bb, uu, hbb, rfl, hO, hb⟩
        have D5 := Lib.hid (bstep D4.out hb)
        have hbb2 := Nat.le_trans D4.out.size hbb
        rw [hv.out, hS.out] at hO
        have hO := Lib.hid hO
        clear hb D4 si x0 x1 x2 x3 x4
        go_wp2_with fail
        go_ret2
        exact ⟨bb, _, hbb2, rfl, hO.out, D5.out⟩
      · have hR2 := hR.out
        rw [joinR_3 (by rw [hl]; exact h12)] at hR2
        injection hR2 with hS hfl
        subst hS hfl
        have h12' : 12 < mn := by omega
        clear hlen hval hl hv si N3
        go_wp2_with fail
        refine (sm _).mono ?_
        rintro e w4 ⟨rfl, hb⟩
        have D4 := Lib.hid (bstep D3.out hb)
        have N4 := Lib.hid (ownP_nil w4 25)
        have s4 := D4.out.size
        clear hb D3 C3 sm
        go_wp2_with fail
        go_ret2
        exact ⟨w4.heap.size, _, s4, rfl, N4.out, D4.out.alloc D4.out.size _⟩
end Go.Proofs.YtdikcenhakfheaaGreatDoor
