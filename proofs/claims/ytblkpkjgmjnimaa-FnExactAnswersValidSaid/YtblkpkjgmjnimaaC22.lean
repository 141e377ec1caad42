/- Texts laid together. -/
import Derived.Test.YtblkpkjgmjnimaaC03
import Derived.Test.YtblkpkjgmjnimaaC02
import Derived.Test.YtblkpkjgmjnimaaC21
import Derived.Deep.RegionWith
/- The laws' copies of commands. -/
namespace Go.Proofs.Ytblkpkjgmjnimaa
open Go.RowKit
set_option linter.unusedVariables false

theorem toCmd_any (k key v : Int) (w : World) :
    Calls Try.prog 44 #[.agg #[.int .i64 k, .int .i64 key, .int .i64 v]] w fun e w' => e = .returned (.agg #[.int .i64 k, .int .i64 key, .int .i64 v]) ∧ Below w.heap.size w w' := by
  go_enter Try.func44, Try.ntmps44
  go_wp2_with fail
  exact bodyPost_ret (v := .agg #[.int .i64 k, .int .i64 key, .int .i64 v]) (by simp [results, Try.results44, go_sem]) rfl ⟨rfl, by repeat (first | with_reducible exact Below.refl _ _ | with_reducible refine Below.setCell ?_ (by first | (simp; done) | (simp; omega)) _ | with_reducible refine Below.alloc ?_ (by first | (simp; done) | (simp; omega)) _)⟩
end Go.Proofs.Ytblkpkjgmjnimaa

/- The laws' copy of an entry. -/
namespace Go.Proofs.Ytblkpkjgmjnimaa
open Go.RowKit
set_option linter.unusedVariables false

theorem en_res (tm : Array Value) (w : World) (b : Nat) (x0 x1 x2 x3 x4 x5 x6 x7 x8 : Value) (t : TypeId) (h2 : tm[2]? = some (.pointer (some ⟨b, 0, none⟩))) (h : w.heap[b]? = some (.cells #[x0, x1, x2, x3, x4, x5, x6, x7, x8] t (0, 0))) :
    (results Try.f34 tm).run Try.prog w = .ok (.agg #[x0, x1, x2, x3, x4, x5, x6, x7, x8]) w := by
  obtain ⟨t0, t1, t2, t3, t4, t5, t6, t7, t8⟩ := nine_cells h
  simp [results, Try.results34, go_sem, h2, t0, t1, t2, t3, t4, t5, t6, t7, t8]

/-- An entry's copy. -/
def EnCPost (x : En) (w : World) (e : Ending) (w' : World) : Prop :=
  ∃ b u, w.heap.size ≤ b ∧ e = .returned (env x u) ∧ OwnP w' b u x.deps ∧ Below w.heap.size w w'

set_option maxRecDepth 100000 in
set_option maxHeartbeats 4000000 in
theorem toE_any (x : En) (u : Value) (w : World) (h : Ids w u x.deps) :
    Calls Try.prog 34 #[env x u] w (EnCPost x w) := by
  have sc := fun W (hb : Below w.heap.size w W) => toP_any u x.deps W (h.up hb (Nat.le_refl _))
  obtain ⟨ua, uc, rfl, _⟩ := h
  obtain ⟨⟨p, r⟩, bal, st, k, key, v, s, C⟩ := x
  unfold EnCPost
  dsimp only [env] at sc ⊢
  obtain ⟨n, hn⟩ : ∃ n, Hid (C.length = n) := ⟨_, Lib.hid rfl⟩
  rw [hn.out] at sc ⊢
  have D0 := Lib.hid ((((Below.refl w.heap.size w).alloc (Nat.le_refl _) (.cells #[.int .i64 p, .int .i64 r, .int .i64 bal, .int .i64 st, .int .i64 k, .int .i64 key, .int .i64 v, .int .i64 s, .slice ua n uc] 59)).alloc (by simp) (.cells #[.int .i64 0, .int .i64 0, .int .i64 0, .int .i64 0, .int .i64 0, .int .i64 0, .int .i64 0, .int .i64 0, .slice none 0 0] 46)).alloc (by simp; omega) (.cells #[.int .i64 0, .int .i64 0, .int .i64 0, .int .i64 0, .int .i64 0, .int .i64 0, .int .i64 0, .int .i64 0, .slice none 0 0] 46))
  have A0 := Lib.hid ((Below.heap_alloc _ (.cells #[.int .i64 0, .int .i64 0, .int .i64 0, .int .i64 0, .int .i64 0, .int .i64 0, .int .i64 0, .int .i64 0, .slice none 0 0] 46) _ (by simp; omega)).trans ((Below.heap_alloc _ (.cells #[.int .i64 0, .int .i64 0, .int .i64 0, .int .i64 0, .int .i64 0, .int .i64 0, .int .i64 0, .int .i64 0, .slice none 0 0] 46) _ (by simp)).trans (heap_alloc_new w (.cells #[.int .i64 p, .int .i64 r, .int .i64 bal, .int .i64 st, .int .i64 k, .int .i64 key, .int .i64 v, .int .i64 s, .slice ua n uc] 59))))
  have R0 := Lib.hid ((Below.heap_alloc _ (.cells #[.int .i64 0, .int .i64 0, .int .i64 0, .int .i64 0, .int .i64 0, .int .i64 0, .int .i64 0, .int .i64 0, .slice none 0 0] 46) _ (by simp)).trans (heap_alloc_at (w.alloc (.cells #[.int .i64 p, .int .i64 r, .int .i64 bal, .int .i64 st, .int .i64 k, .int .i64 key, .int .i64 v, .int .i64 s, .slice ua n uc] 59)) (.cells #[.int .i64 0, .int .i64 0, .int .i64 0, .int .i64 0, .int .i64 0, .int .i64 0, .int .i64 0, .int .i64 0, .slice none 0 0] 46) (w.heap.size + 1) (by simp)))
  have O0 := Lib.hid (heap_alloc_at ((w.alloc (.cells #[.int .i64 p, .int .i64 r, .int .i64 bal, .int .i64 st, .int .i64 k, .int .i64 key, .int .i64 v, .int .i64 s, .slice ua n uc] 59)).alloc (.cells #[.int .i64 0, .int .i64 0, .int .i64 0, .int .i64 0, .int .i64 0, .int .i64 0, .int .i64 0, .int .i64 0, .slice none 0 0] 46)) (.cells #[.int .i64 0, .int .i64 0, .int .i64 0, .int .i64 0, .int .i64 0, .int .i64 0, .int .i64 0, .int .i64 0, .slice none 0 0] 46) (w.heap.size + 1 + 1) (by simp))
  go_enter Try.func34, Try.ntmps34
  go_wp2_with fail
  refine (toId_any p r _).mono ?_
  rintro e w1 ⟨rfl, B⟩
  have D1 := Lib.hid (D0.out.trans (B.mono D0.out.size))
  have A1 := Lib.hid (bblk B (lt_of_heap A0.out) A0.out)
  have R1 := Lib.hid (bblk B (lt_of_heap R0.out) R0.out)
  have O1 := Lib.hid (bblk B (lt_of_heap O0.out) O0.out)
  clear B D0 A0 R0 O0
  obtain ⟨a0, a1, a2, a3, a4, a5, a6, a7, a8⟩ := nine_cells A1.out
  obtain ⟨o0, o1, o2, o3, o4, o5, o6, o7, o8⟩ := nine_cells O1.out
  have f0 := nine_free O1.out 0
  have f1 := nine_free O1.out 1
  have f2 := nine_free O1.out 2
  have f3 := nine_free O1.out 3
  have f4 := nine_free O1.out 4
  have f5 := nine_free O1.out 5
  have f6 := nine_free O1.out 6
  have f7 := nine_free O1.out 7
  have f8 := nine_free O1.out 8
  have s1 := lt_of_heap O1.out
  go_wp2_with fail
  refine (toCmd_any k key v _).mono ?_
  rintro e w2 ⟨rfl, B⟩
  have O2 : Hid (w2.heap[w.heap.size + 1 + 1]? = some (.cells #[.int .i64 p, .int .i64 r, .int .i64 bal, .int .i64 st, .int .i64 0, .int .i64 0, .int .i64 0, .int .i64 0, .slice none 0 0] 46 (0, 0))) := Lib.hid ((B.block _ (by simp; omega)).trans (heap_setCell_same _ _ 3 _ _ (.int .i64 st) (heap_setCell_same _ _ 2 _ _ (.int .i64 bal) (heap_setCell_same _ _ 1 _ _ (.int .i64 r) (heap_setCell_same _ _ 0 _ _ (.int .i64 p) O1.out)))))
  have A2 := Lib.hid ((B.block w.heap.size (by simp; omega)).trans ((heap_setCell_other _ ⟨w.heap.size + 1 + 1, 3, none⟩ (w.heap.size) (.int .i64 st) (by first | (simp; done) | (simp; omega))).trans ((heap_setCell_other _ ⟨w.heap.size + 1 + 1, 2, none⟩ (w.heap.size) (.int .i64 bal) (by first | (simp; done) | (simp; omega))).trans ((heap_setCell_other _ ⟨w.heap.size + 1 + 1, 1, none⟩ (w.heap.size) (.int .i64 r) (by first | (simp; done) | (simp; omega))).trans ((heap_setCell_other _ ⟨w.heap.size + 1 + 1, 0, none⟩ (w.heap.size) (.int .i64 p) (by first | (simp; done) | (simp; omega))).trans A1.out)))))
  have R2 := Lib.hid ((B.block (w.heap.size + 1) (by simp; omega)).trans ((heap_setCell_other _ ⟨w.heap.size + 1 + 1, 3, none⟩ (w.heap.size + 1) (.int .i64 st) (by first | (simp; done) | (simp; omega))).trans ((heap_setCell_other _ ⟨w.heap.size + 1 + 1, 2, none⟩ (w.heap.size + 1) (.int .i64 bal) (by first | (simp; done) | (simp; omega))).trans ((heap_setCell_other _ ⟨w.heap.size + 1 + 1, 1, none⟩ (w.heap.size + 1) (.int .i64 r) (by first | (simp; done) | (simp; omega))).trans ((heap_setCell_other _ ⟨w.heap.size + 1 + 1, 0, none⟩ (w.heap.size + 1) (.int .i64 p) (by first | (simp; done) | (simp; omega))).trans R1.out)))))
  have D2 := Lib.hid (bstep ((((D1.out.setCell (p := ⟨w.heap.size + 1 + 1, 0, none⟩) (by show w.heap.size ≤ w.heap.size + 1 + 1; omega) (.int .i64 p)).setCell (p := ⟨w.heap.size + 1 + 1, 1, none⟩) (by show w.heap.size ≤ w.heap.size + 1 + 1; omega) (.int .i64 r)).setCell (p := ⟨w.heap.size + 1 + 1, 2, none⟩) (by show w.heap.size ≤ w.heap.size + 1 + 1; omega) (.int .i64 bal)).setCell (p := ⟨w.heap.size + 1 + 1, 3, none⟩) (by show w.heap.size ≤ w.heap.size + 1 + 1; omega) (.int .i64 st)) B)
  clear B D1 A1 R1 O1 s1
  clear a0 o0 f0 a1 o1 f1 a2 o2 f2 a3 o3 f3 a4 o4 f4 a5 o5 f5 a6 o6 f6 a7 o7 f7 a8 o8 f8
  obtain ⟨a0, a1, a2, a3, a4, a5, a6, a7, a8⟩ := nine_cells A2.out
  obtain ⟨o0, o1, o2, o3, o4, o5, o6, o7, o8⟩ := nine_cells O2.out
  have f0 := nine_free O2.out 0
  have f1 := nine_free O2.out 1
  have f2 := nine_free O2.out 2
  have f3 := nine_free O2.out 3
  have f4 := nine_free O2.out 4
  have f5 := nine_free O2.out 5
  have f6 := nine_free O2.out 6
  have f7 := nine_free O2.out 7
  have f8 := nine_free O2.out 8
  have s1 := lt_of_heap O2.out
  go_wp2_with fail
  have O3 := (heap_setCell_same _ _ 7 _ _ (.int .i64 s) (heap_setCell_same _ _ 6 _ _ (.int .i64 v) (heap_setCell_same _ _ 5 _ _ (.int .i64 key) (heap_setCell_same _ _ 4 _ _ (.int .i64 k) O2.out))))
  have D3 := Lib.hid ((((D2.out.setCell (p := ⟨w.heap.size + 1 + 1, 4, none⟩) (by show w.heap.size ≤ w.heap.size + 1 + 1; omega) (.int .i64 k)).setCell (p := ⟨w.heap.size + 1 + 1, 5, none⟩) (by show w.heap.size ≤ w.heap.size + 1 + 1; omega) (.int .i64 key)).setCell (p := ⟨w.heap.size + 1 + 1, 6, none⟩) (by show w.heap.size ≤ w.heap.size + 1 + 1; omega) (.int .i64 v)).setCell (p := ⟨w.heap.size + 1 + 1, 7, none⟩) (by show w.heap.size ≤ w.heap.size + 1 + 1; omega) (.int .i64 s))
  have A3 := ((heap_setCell_other _ ⟨w.heap.size + 1 + 1, 7, none⟩ (w.heap.size) (.int .i64 s) (by first | (simp; done) | (simp; omega))).trans ((heap_setCell_other _ ⟨w.heap.size + 1 + 1, 6, none⟩ (w.heap.size) (.int .i64 v) (by first | (simp; done) | (simp; omega))).trans ((heap_setCell_other _ ⟨w.heap.size + 1 + 1, 5, none⟩ (w.heap.size) (.int .i64 key) (by first | (simp; done) | (simp; omega))).trans ((heap_setCell_other _ ⟨w.heap.size + 1 + 1, 4, none⟩ (w.heap.size) (.int .i64 k) (by first | (simp; done) | (simp; omega))).trans A2.out))))
  have R3 := ((heap_setCell_other _ ⟨w.heap.size + 1 + 1, 7, none⟩ (w.heap.size + 1) (.int .i64 s) (by first | (simp; done) | (simp; omega))).trans ((heap_setCell_other _ ⟨w.heap.size + 1 + 1, 6, none⟩ (w.heap.size + 1) (.int .i64 v) (by first | (simp; done) | (simp; omega))).trans ((heap_setCell_other _ ⟨w.heap.size + 1 + 1, 5, none⟩ (w.heap.size + 1) (.int .i64 key) (by first | (simp; done) | (simp; omega))).trans ((heap_setCell_other _ ⟨w.heap.size + 1 + 1, 4, none⟩ (w.heap.size + 1) (.int .i64 k) (by first | (simp; done) | (simp; omega))).trans R2.out))))
  refine (sc _ D3.out).mono ?_
  rintro e w3 ⟨b, u', hbu, rfl, hO, B⟩
  obtain ⟨cap, rfl, _⟩ := hO.shape
  rw [hn.out] at hO ⊢
  have O4 : Hid (w3.heap[w.heap.size + 1 + 1]? = some (.cells #[.int .i64 p, .int .i64 r, .int .i64 bal, .int .i64 st, .int .i64 k, .int .i64 key, .int .i64 v, .int .i64 s, .slice none 0 0] 46 (0, 0))) := Lib.hid ((B.block _ (by simp; omega)).trans O3)
  have A4 := Lib.hid ((B.block w.heap.size (by simp; omega)).trans A3)
  have R4 := Lib.hid ((B.block (w.heap.size + 1) (by simp; omega)).trans R3)
  have D4 := Lib.hid (bstep D3.out B)
  have hble := Lib.hid (Nat.le_trans D3.out.size hbu)
  have hne1 : b ≠ w.heap.size + 1 + 1 := by have := hbu; simp at this; omega
  have hne2 : b ≠ w.heap.size + 1 := by have := hbu; simp at this; omega
  have hO := Lib.hid hO
  clear B D2 D3 A2 R2 O2 s1 O3 A3 R3 hbu sc
  clear a0 o0 f0 a1 o1 f1 a2 o2 f2 a3 o3 f3 a4 o4 f4 a5 o5 f5 a6 o6 f6 a7 o7 f7 a8 o8 f8
  obtain ⟨o0, o1, o2, o3, o4, o5, o6, o7, o8⟩ := nine_cells O4.out
  have f0 := nine_free O4.out 0
  have f1 := nine_free O4.out 1
  have f2 := nine_free O4.out 2
  have f3 := nine_free O4.out 3
  have f4 := nine_free O4.out 4
  have f5 := nine_free O4.out 5
  have f6 := nine_free O4.out 6
  have f7 := nine_free O4.out 7
  have f8 := nine_free O4.out 8
  obtain ⟨a0, a1, a2, a3, a4, a5, a6, a7, a8⟩ := nine_cells R4.out
  have g0 := nine_free R4.out 0
  have g1 := nine_free R4.out 1
  have g2 := nine_free R4.out 2
  have g3 := nine_free R4.out 3
  have g4 := nine_free R4.out 4
  have g5 := nine_free R4.out 5
  have g6 := nine_free R4.out 6
  have g7 := nine_free R4.out 7
  have g8 := nine_free R4.out 8
  have s1 := lt_of_heap O4.out
  go_wp2_with fail
  have hfin := (heap_setCell_same _ _ 8 _ _ (.slice (some ⟨b, 0, none⟩) n cap) (heap_setCell_same _ _ 7 _ _ (.int .i64 s) (heap_setCell_same _ _ 6 _ _ (.int .i64 v) (heap_setCell_same _ _ 5 _ _ (.int .i64 key) (heap_setCell_same _ _ 4 _ _ (.int .i64 k) (heap_setCell_same _ _ 3 _ _ (.int .i64 st) (heap_setCell_same _ _ 2 _ _ (.int .i64 bal) (heap_setCell_same _ _ 1 _ _ (.int .i64 r) (heap_setCell_same _ _ 0 _ _ (.int .i64 p) ((heap_setCell_other w3 ⟨w.heap.size + 1 + 1, 8, none⟩ (w.heap.size + 1) (.slice (some ⟨b, 0, none⟩) n cap) (by simp)).trans R4.out))))))))))
  simp only [List.setIfInBounds_toArray, List.set_cons_zero, List.set_cons_succ] at hfin
  refine bodyPost_ret (en_res _ _ _ _ _ _ _ _ _ _ _ _ _ rfl hfin) rfl ⟨b, .slice (some ⟨b, 0, none⟩) n cap, hble.out, rfl, hO.out.same ?_, ?_⟩
  · rw [heap_setCell_other _ _ _ _ hne2, heap_setCell_other _ _ _ _ hne2, heap_setCell_other _ _ _ _ hne2, heap_setCell_other _ _ _ _ hne2, heap_setCell_other _ _ _ _ hne2, heap_setCell_other _ _ _ _ hne2, heap_setCell_other _ _ _ _ hne2, heap_setCell_other _ _ _ _ hne2, heap_setCell_other _ _ _ _ hne2, heap_setCell_other _ _ _ _ hne1]
  · have D5 := D4.out.setCell (p := ⟨w.heap.size + 1 + 1, 8, none⟩) (by show w.heap.size ≤ w.heap.size + 1 + 1; omega) (.slice (some ⟨b, 0, none⟩) n cap)
    repeat (first | with_reducible exact D5 | with_reducible refine Below.setCell ?_ (by first | (simp; done) | (simp; omega)) _)
end Go.Proofs.Ytblkpkjgmjnimaa

/- The laws' comparison of entries. -/
namespace Go.Proofs.Ytblkpkjgmjnimaa
open Go.RowKit
set_option linter.unusedVariables false

theorem holdE {w : World} {o x : Obj} {b : Nat} (h : w.heap[b]? = some x) : (w.alloc o).heap[b]? = some x := (Below.heap_alloc _ _ _ (lt_of_heap h)).trans h

theorem eqCe (k key v : Int) (w : World) : Calls Try.prog 47 #[.agg #[.int .i64 k, .int .i64 key, .int .i64 v], .agg #[.int .i64 k, .int .i64 key, .int .i64 v]] w fun e w' => e = .returned (.bool true) ∧ Below w.heap.size w w' := by
  go_enter Try.func47, Try.ntmps47
  go_wp2_with fail
  go_ret
  exact ⟨rfl, ((Below.refl _ _).alloc (Nat.le_refl _) _).alloc (by simp) _⟩

set_option maxRecDepth 100000 in
set_option maxHeartbeats 2000000 in
/-- An entry is like itself. -/
theorem eqE_any (x : En) (u v' : Value) (w : World) (hu : Ids w u x.deps) (hv : Ids w v' x.deps) :
    Calls Try.prog 35 #[env x u, env x v'] w fun e w' => e = .returned (.bool true) ∧ Below w.heap.size w w' := by
  have sc := fun W (hb : Below w.heap.size w W) => eqP_any u v' x.deps W (hu.up hb (Nat.le_refl _)) (hv.up hb (Nat.le_refl _))
  obtain ⟨ua, uc, rfl, _⟩ := hu
  obtain ⟨va, vc, rfl, _⟩ := hv
  obtain ⟨⟨p, r⟩, bal, st, k, key, v, s, C⟩ := x
  dsimp only [env] at sc ⊢
  obtain ⟨n, hn⟩ : ∃ n, Hid (C.length = n) := ⟨_, Lib.hid rfl⟩
  rw [hn.out] at sc ⊢
  have D0 := Lib.hid (((Below.refl w.heap.size w).alloc (Nat.le_refl _) (.cells #[.int .i64 p, .int .i64 r, .int .i64 bal, .int .i64 st, .int .i64 k, .int .i64 key, .int .i64 v, .int .i64 s, .slice ua n uc] 46)).alloc (by simp) (.cells #[.int .i64 p, .int .i64 r, .int .i64 bal, .int .i64 st, .int .i64 k, .int .i64 key, .int .i64 v, .int .i64 s, .slice va n vc] 46))
  go_enter Try.func35, Try.ntmps35
  go_wp2_with fail
  refine (eqP1 p r _).mono ?_
  rintro e w1 ⟨rfl, B⟩
  have D1 := Lib.hid (D0.out.trans (B.mono D0.out.size))
  have A1 := Lib.hid ((B.block w.heap.size (by simp; omega)).trans (holdE (heap_alloc_new w (.cells #[.int .i64 p, .int .i64 r, .int .i64 bal, .int .i64 st, .int .i64 k, .int .i64 key, .int .i64 v, .int .i64 s, .slice ua n uc] 46))))
  have O1 := Lib.hid ((B.block (w.heap.size + 1) (by simp)).trans (heap_alloc_at _ (.cells #[.int .i64 p, .int .i64 r, .int .i64 bal, .int .i64 st, .int .i64 k, .int .i64 key, .int .i64 v, .int .i64 s, .slice va n vc] 46) _ (by simp)))
  have hs1 := lt_of_heap O1.out
  obtain ⟨a0, a1, a2, a3, a4, a5, a6, a7, a8⟩ := nine_cells A1.out
  obtain ⟨o0, o1, o2, o3, o4, o5, o6, o7, o8⟩ := nine_cells O1.out
  clear D0 B
  go_wp2_with fail
  refine (eqCe k key v _).mono ?_
  rintro e w2 ⟨rfl, B⟩
  have D2 := Lib.hid (bstep D1.out B)
  have A2 := Lib.hid (bblk B (by omega) A1.out)
  have O2 := Lib.hid (bblk B (by omega) O1.out)
  clear D1 B A1 O1 a0 a1 a2 a3 a4 a5 a6 a7 a8 o0 o1 o2 o3 o4 o5 o6 o7 o8
  obtain ⟨a0, a1, a2, a3, a4, a5, a6, a7, a8⟩ := nine_cells A2.out
  obtain ⟨o0, o1, o2, o3, o4, o5, o6, o7, o8⟩ := nine_cells O2.out
  go_wp2_with fail
  refine (sc _ D2.out).mono ?_
  rintro e w3 ⟨rfl, B⟩
  have D3 := Lib.hid (bstep D2.out B)
  clear sc B D2
  go_wp2_with fail
  go_ret
  exact ⟨rfl, D3.out⟩
end Go.Proofs.Ytblkpkjgmjnimaa
