/- Texts laid together. -/
import Derived.Test.YtanjogflolmgdaaC12
import Derived.Test.YtanjogflolmgdaaC05
/- Draws of one entry: DrawEntryValid. -/
namespace Go.Proofs.Ytanjogflolmgdaa
open Go.RowKit
set_option linter.unusedVariables false

theorem en_resV (tm : Array Value) (w : World) (b : Nat) (x0 x1 x2 x3 x4 x5 x6 x7 x8 : Value) (t : TypeId) (h2 : tm[2]? = some (.pointer (some ⟨b, 0, none⟩))) (h : w.heap[b]? = some (.cells #[x0, x1, x2, x3, x4, x5, x6, x7, x8] t (0, 0))) :
    (results Try.f24 tm).run Try.prog w = .ok (.agg #[x0, x1, x2, x3, x4, x5, x6, x7, x8]) w := by
  obtain ⟨t0, t1, t2, t3, t4, t5, t6, t7, t8⟩ := nine_cells h
  simp [results, Try.results24, go_sem, h2, t0, t1, t2, t3, t4, t5, t6, t7, t8]

/-- What DrawEntryValid leaves. -/
def DevP (w : World) (e : Ending) (w' : World) : Prop := ∃ b X u, w.heap.size ≤ b ∧ e = .returned (env X u) ∧ OwnP w' b u X.deps ∧ X.deps.length ≤ 3 ∧ Below w.heap.size w w'

set_option maxRecDepth 100000 in
set_option maxHeartbeats 2000000 in
theorem dev_any (a : Option Addr) (len cap : Nat) (w : World) (hc : CodeIn w a len cap) (hcap : cap ≤ maxLen) :
    Calls Try.prog 24 #[.slice a len cap] w (DevP w) := by
  have al := (Below.refl w.heap.size w).alloc (Nat.le_refl _) (.cells #[.int .i64 0, .int .i64 0, .int .i64 0, .int .i64 0, .int .i64 0, .int .i64 0, .int .i64 0, .int .i64 0, .slice none 0 0] 30)
  have hc := Lib.hid (hc.up al)
  have hcap := Lib.hid hcap
  have al := Lib.hid al
  have A0 := Lib.hid (heap_alloc_new w (.cells #[.int .i64 0, .int .i64 0, .int .i64 0, .int .i64 0, .int .i64 0, .int .i64 0, .int .i64 0, .int .i64 0, .slice none 0 0] 30))
  go_enter Try.func24, Try.ntmps24
  go_wp2_with fail
  refine (open_any a len cap _ hc.out hcap.out).mono ?_
  rintro e w1 ⟨r, rfl, hr0, hr', hb'⟩
  have s1 : w.heap.size + 1 ≤ w1.heap.size := by simpa using hb'.size
  have hr0' : w.heap.size + 1 ≤ r := by simpa using hr0
  have A1 := Lib.hid ((hb'.block w.heap.size (by simp)).trans A0.out)
  have D1 : Hid (Below w.heap.size w w1) := Lib.hid (al.out.trans (hb'.mono (by simp)))
  have hr1 := Lib.hid hr'
  clear hr' hb' hc hcap al A0
  go_wp2_with fail
  refine (idd_any r 0 _ hr1.out (by omega)).mono ?_
  rintro e w2 ⟨p, q, rfl, _, _, hr2, hk2⟩
  have s2 := hk2.size
  have A2 := Lib.hid ((hk2.block w.heap.size (by omega) (by omega)).trans A1.out)
  have D2 : Hid (Below w.heap.size w w2) := Lib.hid (D1.out.trans ((hk2.mono (by omega)).below (by omega)))
  have hr2 := Lib.hid hr2
  clear hk2 hr1 D1 A1
  go_wp2_with fail
  refine (entry_any r _ p q _ hr2.out (by omega)).mono ?_
  rintro e w3 ⟨b, X, u, hb, rfl, hXi, hO, hl, _, hk3⟩
  clear hXi
  have s3 := hk3.size
  have A3 := (hk3.block w.heap.size (by omega) (by omega)).trans A2.out
  have D3 : Hid (Below w.heap.size w w3) := Lib.hid (D2.out.trans ((hk3.mono (by omega)).below (by omega)))
  obtain ⟨uc, rfl, _⟩ := hO.shape
  obtain ⟨n0, n1, n2, n3, n4, n5, n6, n7, n8⟩ := nine_cells A3
  have m0 := nine_free A3 0
  have m1 := nine_free A3 1
  have m2 := nine_free A3 2
  have m3 := nine_free A3 3
  have m4 := nine_free A3 4
  have m5 := nine_free A3 5
  have m6 := nine_free A3 6
  have m7 := nine_free A3 7
  have m8 := nine_free A3 8
  have hal := lt_of_heap A3
  have A3 := Lib.hid A3
  have hO := Lib.hid hO
  clear hk3 hr2 D2 A2
  unfold env
  go_wp2_with fail
  have hfin := heap_setCell_same _ w.heap.size 8 _ _ (.slice (some ⟨b, 0, none⟩) X.deps.length uc) (heap_setCell_same _ w.heap.size 7 _ _ (.int .i64 X.seq) (heap_setCell_same _ w.heap.size 6 _ _ (.int .i64 X.v) (heap_setCell_same _ w.heap.size 5 _ _ (.int .i64 X.key) (heap_setCell_same _ w.heap.size 4 _ _ (.int .i64 X.k) (heap_setCell_same _ w.heap.size 3 _ _ (.int .i64 X.st) (heap_setCell_same _ w.heap.size 2 _ _ (.int .i64 X.bal) (heap_setCell_same _ w.heap.size 1 _ _ (.int .i64 X.id.2) (heap_setCell_same _ w.heap.size 0 _ _ (.int .i64 X.id.1) A3.out))))))))
  simp only [List.setIfInBounds_toArray, List.set_cons_zero, List.set_cons_succ] at hfin
  have hnb : b ≠ w.heap.size := by omega
  refine bodyPost_ret (en_resV _ _ _ _ _ _ _ _ _ _ _ _ _ rfl hfin) rfl ⟨b, X, .slice (some ⟨b, 0, none⟩) X.deps.length uc, by omega, rfl, hO.out.same ?_, hl, ?_⟩
  · rw [heap_setCell_other _ _ _ _ hnb, heap_setCell_other _ _ _ _ hnb, heap_setCell_other _ _ _ _ hnb, heap_setCell_other _ _ _ _ hnb, heap_setCell_other _ _ _ _ hnb, heap_setCell_other _ _ _ _ hnb, heap_setCell_other _ _ _ _ hnb, heap_setCell_other _ _ _ _ hnb, heap_setCell_other _ _ _ _ hnb]
  · have R := D3.out
    repeat (first | with_reducible exact R | with_reducible refine Below.setCell ?_ (by show w.heap.size ≤ w.heap.size; exact Nat.le_refl _) _)
end Go.Proofs.Ytanjogflolmgdaa

/- The walk of FnEntryPart. -/
namespace Go.Proofs.Ytanjogflolmgdaa
open Go.RowKit
set_option linter.unusedVariables false

theorem enB_own (X : En) : enB { X with deps := [X.id] } = false := by
  unfold enB ndB En.nd
  simp [hasP]
theorem enB_zero (X : En) : enB { X with seq := 0 } = false := by
  unfold enB ndB En.nd
  simp

set_option maxRecDepth 100000 in
set_option maxHeartbeats 4000000 in
theorem fnEntryPart_walk (a : Option Addr) (len cap : Nat) (w : World) (hc : CodeIn w a len cap) (hcap : cap ≤ maxLen) :
    Calls Try.prog 7 #[.slice a len cap] w fun e w' => e = .returned (.bool true) ∧ Below w.heap.size w w' := by
  have hm : cap ≤ 9223372036854775807 := by simpa [maxLen] using hcap
  have hlc := hc.1
  by_cases hl : 1048576 < len
  · clear hcap hc
    go_enter Try.func7, Try.ntmps7
    go_wp2_with fail
    go_ret
    exact ⟨rfl, Below.refl _ _⟩
  · have hc1 := Lib.hid hc
    have hcap1 := Lib.hid hcap
    clear hc hcap
    go_enter Try.func7, Try.ntmps7
    go_wp2_with fail
    refine (dev_any a len cap w hc1.out hcap1.out).mono ?_
    rintro e w0 ⟨b, X, u, hb, rfl, hO, hl3, B⟩
    have D := Lib.hid B
    have hO := Lib.hid hO
    clear hc1 hcap1 B
    have eOwn := enB_own X
    have eZero := enB_zero X
    obtain ⟨⟨x, y⟩, bal, st, k, key, v, s, C⟩ := X
    dsimp only at hO hl3 eOwn eZero
    obtain ⟨uc, rfl, _⟩ := hO.out.shape
    obtain ⟨n, hn⟩ : ∃ n, Hid (C.length = n) := ⟨_, Lib.hid rfl⟩
    have iv := fun u W (h : Ids W u C) => ientry_any ⟨(x, y), bal, st, k, key, v, s, C⟩ u W h
    have sv := fun u W (h : Ids W u C) => sentry_any ⟨(x, y), bal, st, k, key, v, s, C⟩ u W h
    have ix := fun u W (h : Ids W u [(x, y)]) => ientry_any ⟨(x, y), bal, st, k, key, v, s, [(x, y)]⟩ u W h
    have iy := fun u W (h : Ids W u C) => ientry_any ⟨(x, y), bal, st, k, key, v, 0, C⟩ u W h
    rw [eOwn] at ix
    rw [eZero] at iy
    clear eOwn eZero
    generalize enB ⟨(x, y), bal, st, k, key, v, s, C⟩ = q at iv sv
    dsimp only [env] at iv sv ix iy ⊢
    rw [hn.out] at hO ⊢
    have B0 := (Below.refl w0.heap.size w0).alloc (Nat.le_refl _) (.cells #[.int .i64 x, .int .i64 y, .int .i64 bal, .int .i64 st, .int .i64 k, .int .i64 key, .int .i64 v, .int .i64 s, .slice (some ⟨b, 0, none⟩) n uc] 30)
    have hE := Lib.hid (heap_alloc_new w0 (.cells #[.int .i64 x, .int .i64 y, .int .i64 bal, .int .i64 st, .int .i64 k, .int .i64 key, .int .i64 v, .int .i64 s, .slice (some ⟨b, 0, none⟩) n uc] 30))
    replace hO := Lib.hid (hO.out.up B0 hO.out.lt)
    replace D := Lib.hid (bstep D.out B0)
    obtain ⟨n0, n1, n2, n3, n4, n5, n6, n7, n8⟩ := nine_cells hE.out
    clear B0
    go_wp2_with fail
    refine (iv _ _ hO.out.read).mono ?_
    rintro e w1 ⟨rfl, B⟩
    replace hO := Lib.hid (hO.out.up B hO.out.lt)
    replace D := Lib.hid (bstep D.out B)
    replace hE := Lib.hid (bblk B (by simp) hE.out)
    clear B n0 n1 n2 n3 n4 n5 n6 n7 n8 iv
    obtain ⟨n0, n1, n2, n3, n4, n5, n6, n7, n8⟩ := nine_cells hE.out
    have hel := lt_of_heap hE.out
    go_wp2_with fail
    refine (sv _ _ hO.out.read).mono ?_
    rintro e w2 ⟨rfl, B⟩
    replace hO := Lib.hid (hO.out.up B hO.out.lt)
    replace D := Lib.hid (bstep D.out B)
    replace hE := Lib.hid (bblk B hel hE.out)
    clear B n0 n1 n2 n3 n4 n5 n6 n7 n8 sv hel
    obtain ⟨n0, n1, n2, n3, n4, n5, n6, n7, n8⟩ := nine_cells hE.out
    have hel := lt_of_heap hE.out
    obtain ⟨eb, heb⟩ : ∃ b, Hid (w0.heap.size = b) := ⟨_, Lib.hid rfl⟩
    rw [heb.out] at n0 n1 n2 n3 n4 n5 n6 n7 n8 hel ⊢
    cases q
    · go_wp2_with fail
      go_ret
      exact ⟨rfl, D.out⟩
    · have B0 := (((Below.refl w2.heap.size w2).alloc (Nat.le_refl _) (.cells #[.int .i64 x, .int .i64 y, .int .i64 bal, .int .i64 st, .int .i64 k, .int .i64 key, .int .i64 v, .int .i64 s, .slice (some ⟨w2.heap.size + 1, 0, none⟩) 1 1] 30)).alloc (by simp) (.cells #[.int .i64 x, .int .i64 y] 25)).alloc (by simp; omega) (.cells #[.int .i64 x, .int .i64 y, .int .i64 bal, .int .i64 st, .int .i64 k, .int .i64 key, .int .i64 v, .int .i64 0, .slice (some ⟨b, 0, none⟩) n uc] 30)
      have hL := (Below.heap_alloc _ (.cells #[.int .i64 x, .int .i64 y, .int .i64 bal, .int .i64 st, .int .i64 k, .int .i64 key, .int .i64 v, .int .i64 0, .slice (some ⟨b, 0, none⟩) n uc] 30) (w2.heap.size + 1) (by simp)).trans (heap_alloc_at (w2.alloc (.cells #[.int .i64 x, .int .i64 y, .int .i64 bal, .int .i64 st, .int .i64 k, .int .i64 key, .int .i64 v, .int .i64 s, .slice (some ⟨w2.heap.size + 1, 0, none⟩) 1 1] 30)) (.cells #[.int .i64 x, .int .i64 y] 25) (w2.heap.size + 1) (by simp))
      have hE2 := Lib.hid (heap_alloc_at ((w2.alloc (.cells #[.int .i64 x, .int .i64 y, .int .i64 bal, .int .i64 st, .int .i64 k, .int .i64 key, .int .i64 v, .int .i64 s, .slice (some ⟨w2.heap.size + 1, 0, none⟩) 1 1] 30)).alloc (.cells #[.int .i64 x, .int .i64 y] 25)) (.cells #[.int .i64 x, .int .i64 y, .int .i64 bal, .int .i64 st, .int .i64 k, .int .i64 key, .int .i64 v, .int .i64 0, .slice (some ⟨b, 0, none⟩) n uc] 30) (w2.heap.size + 1 + 1) (by simp))
      have hX : OwnP (((w2.alloc (.cells #[.int .i64 x, .int .i64 y, .int .i64 bal, .int .i64 st, .int .i64 k, .int .i64 key, .int .i64 v, .int .i64 s, .slice (some ⟨w2.heap.size + 1, 0, none⟩) 1 1] 30)).alloc (.cells #[.int .i64 x, .int .i64 y] 25)).alloc (.cells #[.int .i64 x, .int .i64 y, .int .i64 bal, .int .i64 st, .int .i64 k, .int .i64 key, .int .i64 v, .int .i64 0, .slice (some ⟨b, 0, none⟩) n uc] 30)) (w2.heap.size + 1) (.slice (some ⟨w2.heap.size + 1, 0, none⟩) 1 1) [(x, y)] := ⟨1, _, _, rfl, hL, Nat.le_refl _, by simp, fun i hi => by have hi0 : i = 0 := (by simpa using hi); subst hi0; exact ⟨rfl, rfl⟩⟩
      replace hO := Lib.hid (hO.out.up B0 hO.out.lt)
      replace D := Lib.hid (bstep D.out B0)
      have ix := ix _ _ hX.read
      clear B0 hL hX hE
      go_wp2_with fail
      refine ix.mono ?_
      rintro e w5 ⟨rfl, B⟩
      replace hO := Lib.hid (hO.out.up B hO.out.lt)
      replace D := Lib.hid (bstep D.out B)
      replace hE2 := Lib.hid (bblk B (by simp) hE2.out)
      clear n0 n1 n2 n3 n4 n5 n6 n7 n8 hel
      obtain ⟨n0, n1, n2, n3, n4, n5, n6, n7, n8⟩ := nine_cells hE2.out
      have hel := lt_of_heap hE2.out
      clear B ix
      go_wp2_with fail
      refine (iy _ _ hO.out.read).mono ?_
      rintro e w6 ⟨rfl, B⟩
      replace D := Lib.hid (bstep D.out B)
      clear B
      go_wp2_with fail
      go_ret
      exact ⟨rfl, D.out⟩
end Go.Proofs.Ytanjogflolmgdaa
