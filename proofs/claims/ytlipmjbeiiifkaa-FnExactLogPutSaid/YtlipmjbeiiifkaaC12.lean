/- Texts laid together. -/
import Derived.Test.YtlipmjbeiiifkaaC01
import Derived.Test.YtlipmjbeiiifkaaC02
/- Memory that turns only in some blocks. -/
namespace Go.Proofs.Ytlipmjbeiiifkaa
open Go.RowKit
set_option linter.unusedVariables false

/-- All elder memory is as it was, but some blocks. -/
structure Exc (P : Nat → Prop) (w w' : World) : Prop where
  os : w'.os = w.os
  tape : w'.tape = w.tape
  output : w'.output = w.output
  size : w.heap.size ≤ w'.heap.size
  block : ∀ b, b < w.heap.size → ¬ P b → w'.heap[b]? = w.heap[b]?
theorem Exc.refl (P : Nat → Prop) (w : World) : Exc P w w := ⟨rfl, rfl, rfl, Nat.le_refl _, fun _ _ _ => rfl⟩
theorem Exc.of {P : Nat → Prop} {w w' : World} (h : Below w.heap.size w w') : Exc P w w' := ⟨h.os, h.tape, h.output, h.size, fun b hb _ => h.block b hb⟩
theorem Exc.trans {P Q : Nat → Prop} {w w1 w2 : World} (h : Exc P w w1) (g : Exc Q w1 w2) (hQ : ∀ b, b < w.heap.size → Q b → P b) : Exc P w w2 :=
  ⟨g.os.trans h.os, g.tape.trans h.tape, g.output.trans h.output, Nat.le_trans h.size g.size, fun b hb hn => (g.block b (Nat.lt_of_lt_of_le hb h.size) (fun hq => hn (hQ b hb hq))).trans (h.block b hb hn)⟩
theorem Exc.below {P : Nat → Prop} {w w1 w2 : World} (h : Exc P w w1) (g : Below w1.heap.size w1 w2) : Exc P w w2 := h.trans (Exc.of (P := P) g) (fun _ _ x => x)
theorem Exc.set {P : Nat → Prop} {w w1 : World} (h : Exc P w w1) {b : Nat} (hb : P b ∨ w.heap.size ≤ b) (o : Nat) (v : Value) : Exc P w (w1.setCell ⟨b, o, none⟩ v) := by
  refine ⟨h.os, h.tape, h.output, by rw [World.size_setCell]; exact h.size, fun c hc hn => ?_⟩
  rw [heap_setCell_other w1 ⟨b, o, none⟩ c v (fun e => by subst e; exact hb.elim hn (fun x => absurd hc (Nat.not_lt.2 x)))]
  exact h.block c hc hn
theorem Exc.drew {P : Nat → Prop} {w w1 : World} (h : Exc P w w1) : Exc P w w1.drew := ⟨h.os, h.tape, h.output, h.size, h.block⟩
theorem Exc.drewN {P : Nat → Prop} {w w1 : World} (h : Exc P w w1) (n : Nat) : Exc P w (w1.drewN n) := ⟨h.os, h.tape, h.output, h.size, h.block⟩
theorem Exc.alloc {P : Nat → Prop} {w w1 : World} (h : Exc P w w1) (o : Obj) : Exc P w (w1.alloc o) := h.below ((Below.refl _ _).alloc (Nat.le_refl _) o)
theorem Exc.to {P : Nat → Prop} {w w1 : World} (h : Exc P w w1) {B : Nat} (hB : B ≤ w.heap.size) (hP : ∀ b, P b → B ≤ b) : Below B w w1 :=
  ⟨h.os, h.tape, h.output, h.size, fun b hb => h.block b (Nat.lt_of_lt_of_le hb hB) (fun hp => absurd hb (Nat.not_lt.2 (hP b hp)))⟩
theorem Exc.at {P : Nat → Prop} {w w1 : World} (h : Exc P w w1) {b : Nat} {o : Obj} (hn : ¬ P b) (hb : w.heap[b]? = some o) : w1.heap[b]? = some o := (h.block b (lt_of_heap hb) hn).trans hb
end Go.Proofs.Ytlipmjbeiiifkaa

/- The laws' sizes of slices of ids. -/
namespace Go.Proofs.Ytlipmjbeiiifkaa
open Go.RowKit
set_option linter.unusedVariables false

theorem szP_any (a : Option Addr) (n cap : Nat) (k : Int) (w : World) (hk : k = 1048576) (h : n ≤ 9223372036854775807) :
    Calls Try.prog 35 #[.slice a n cap, .int .i64 k] w fun e w' => e = .returned (.int .i64 (if 1048576 < n then -1 else 1048576 - n)) ∧ Below w.heap.size w w' := by
  subst hk
  by_cases hl : 1048576 < n
  · rw [if_pos hl]
    go_enter Try.func35, Try.ntmps35
    go_wp2_with fail
    go_ret
    exact ⟨rfl, Below.refl _ _⟩
  · rw [if_neg hl]
    go_enter Try.func35, Try.ntmps35
    go_wp2_with fail
    go_ret
    exact ⟨rfl, Below.refl _ _⟩

/-- .. with whatever is left. -/
theorem szP_gen (a : Option Addr) (n cap : Nat) (k : Int) (w : World) (hk : 0 ≤ k) (hk2 : k ≤ 1048576) (h : n ≤ 9223372036854775807) :
    Calls Try.prog 35 #[.slice a n cap, .int .i64 k] w fun e w' => e = .returned (.int .i64 (if k < n then -1 else k - n)) ∧ Below w.heap.size w w' := by
  by_cases hl : k < n
  · rw [if_pos hl]
    go_enter Try.func35, Try.ntmps35
    go_wp2_with fail
    go_ret
    exact ⟨rfl, Below.refl _ _⟩
  · rw [if_neg hl]
    go_enter Try.func35, Try.ntmps35
    go_wp2_with fail
    go_ret
    exact ⟨rfl, Below.refl _ _⟩
end Go.Proofs.Ytlipmjbeiiifkaa

/- The laws' marks and sizes of slices of ids. -/
namespace Go.Proofs.Ytlipmjbeiiifkaa
open Go.RowKit
set_option linter.unusedVariables false

theorem OwnP.cap_le {w : World} {b : Nat} {v : Value} {C : List Pid} (h : OwnP w b v C) : C.length ≤ 2000000 := by
  obtain ⟨_, _, _, _, _, _, h, _⟩ := h; exact h

/-- Marks from k on, two an id. -/
def MarkedP (k : Int) (M : List Pid) : Prop := ∀ j : Nat, j < M.length → M.getD j nop = (k + 2 * j, k + 2 * j + 1)

theorem markP_up {M : List Pid} {k0 : Int} {k : Nat} (hM : k < M.length) (h : ∀ j : Nat, j < k → M.getD j nop = (k0 + 2 * j, k0 + 2 * j + 1)) : ∀ j : Nat, j < k + 1 → (M.set k (k0 + 2 * k, k0 + 2 * k + 1)).getD j nop = (k0 + 2 * j, k0 + 2 * j + 1) := by
  intro j hj
  by_cases e : j = k
  · subst e; rw [List.getD_eq_getElem?_getD, List.getElem?_set_self hM]; rfl
  · rw [List.getD_eq_getElem?_getD, List.getElem?_set_ne (fun x => e x.symm), ← List.getD_eq_getElem?_getD]; exact h j (by omega)

set_option maxRecDepth 100000 in
set_option maxHeartbeats 2000000 in
theorem markP_any (b : Nat) (u : Value) (C : List Pid) (k0 : Int) (w : World) (h : OwnP w b u C) (h0 : 0 ≤ k0) (h1 : k0 ≤ 1000000000) :
    Calls Try.prog 42 #[u, .int .i64 k0] w fun e w' => e = .returned (.int .i64 (k0 + 2 * C.length)) ∧ ∃ M, M.length = C.length ∧ MarkedP k0 M ∧ OwnP w' b u M ∧ Keep w.heap.size b w w' := by
  have hm := h.cap_le
  obtain ⟨cap, rfl, hcap⟩ := h.shape
  obtain ⟨n, hn⟩ : ∃ n, Hid (C.length = n) := ⟨_, Lib.hid rfl⟩
  rw [hn.out] at h hcap hm ⊢
  have h := Lib.hid h
  go_enter Try.func42, Try.ntmps42
  go_wp2_with fail
  go_loopw [1, 5] (fun q i wr => ∃ k : Nat, k ≤ n ∧ i = .int .i64 k ∧ q = .int .i64 (k0 + 2 * k) ∧ ∃ M : List Pid, Hid (M.length = n ∧ (∀ j : Nat, j < k → M.getD j nop = (k0 + 2 * j, k0 + 2 * j + 1)) ∧ OwnP wr b (.slice (some ⟨b, 0, none⟩) n cap) M) ∧ Hid (Keep w.heap.size b w wr)) (fun _ i _ => n - (intOf i).toNat)
  case atStart => exact ⟨0, Nat.zero_le _, rfl, by simp, C, Lib.hid ⟨hn.out, fun j hj => absurd hj (Nat.not_lt_zero _), h.out⟩, Lib.hid (Keep.refl _ _ _)⟩
  case round =>
    obtain ⟨k, hk, rfl, rfl, M, hM, hnx⟩ := hrel
    clear h
    by_cases hlt : k < n
    · obtain ⟨c0, c1⟩ := hM.out.2.2.cell k (by rw [hM.out.1]; exact hlt)
      have f0 := hM.out.2.2.free (k * 2)
      have f1 := hM.out.2.2.free (k * 2 + 1)
      have hs := hM.out.2.2.lt
      have R := Lib.hid (hM.out.2.2.set k (by rw [hM.out.1]; exact hlt) (k0 + 2 * k, k0 + 2 * k + 1))
      have R2 := Lib.hid (markP_up (by rw [hM.out.1]; exact hlt) hM.out.2.1)
      have hl := Lib.hid hM.out.1
      generalize M.getD k nop = y at c0 c1
      clear hM
      go_wp2_with fail
      go_roundw
      case rel => exact ⟨k + 1, by omega, by go_num, by go_num, M.set k (k0 + 2 * k, k0 + 2 * k + 1), Lib.hid ⟨by rw [List.length_set]; exact hl.out, R2.out, R.out⟩, Lib.hid ((hnx.out.setR _ _).setR _ _)⟩
      case measure => simp [intOf]; omega
    · obtain rfl : k = n := by omega
      go_wp2_with fail
      go_ret
      refine ⟨rfl, M, hM.out.1, ?_, hM.out.2.2, hnx.out⟩
      intro j hj
      exact hM.out.2.1 j (by rw [← hM.out.1]; exact hj)

set_option maxRecDepth 100000 in
set_option maxHeartbeats 2000000 in
theorem heldP_at (b off ca : Nat) (k0 : Int) (M : List Pid) (w : World) (hM : MarkedP k0 M) (hb : b < w.heap.size) (hm : M.length ≤ 2000000) (h : ∀ i, i < M.length → w.cell? ⟨b, off + i * 2, none⟩ = some (.int .i64 (M.getD i nop).1) ∧ w.cell? ⟨b, off + i * 2 + 1, none⟩ = some (.int .i64 (M.getD i nop).2)) (h0 : 0 ≤ k0) (h1 : k0 ≤ 1000000000) :
    Calls Try.prog 43 #[.slice (some ⟨b, off, none⟩) M.length ca, .int .i64 k0] w fun e w' => e = .returned (.int .i64 (k0 + 2 * M.length)) ∧ Below w.heap.size w w' := by
  have h : Hid (∀ i, i < M.length → w.cell? ⟨b, off + i * 2, none⟩ = some (.int .i64 (k0 + 2 * i)) ∧ w.cell? ⟨b, off + i * 2 + 1, none⟩ = some (.int .i64 (k0 + 2 * i + 1))) := Lib.hid fun i hi => by
    have := h i hi
    rw [hM i hi] at this
    exact this
  clear hM
  generalize M.length = n at hm h ⊢
  go_enter Try.func43, Try.ntmps43
  go_wp2_with fail
  go_loopw [1, 5] (fun q i wr => ∃ k : Nat, k ≤ n ∧ i = .int .i64 k ∧ q = .int .i64 (k0 + 2 * k) ∧ Below w.heap.size w wr) (fun _ i _ => n - (intOf i).toNat)
  case atStart => exact ⟨0, Nat.zero_le _, rfl, by simp, Below.refl _ _⟩
  case round =>
    obtain ⟨k, hk, rfl, rfl, hnx⟩ := hrel
    by_cases hlt : k < n
    · have c0 := (hnx.cell (p := ⟨b, off + k * 2, none⟩) hb).trans (h.out k hlt).1
      have c1 := (hnx.cell (p := ⟨b, off + k * 2 + 1, none⟩) hb).trans (h.out k hlt).2
      have hnx := Lib.hid hnx
      go_wp2_with fail
      go_roundw
      case rel => exact ⟨k + 1, by omega, by go_num, by go_num, hnx.out⟩
      case measure => simp [intOf]; omega
    · obtain rfl : k = n := by omega
      have hnx := Lib.hid hnx
      go_wp2_with fail
      go_ret
      exact ⟨rfl, hnx.out⟩

theorem heldP_nil (a : Option Addr) (ca : Nat) (k0 : Int) (w : World) :
    Calls Try.prog 43 #[.slice a 0 ca, .int .i64 k0] w fun e w' => e = .returned (.int .i64 (k0 + 2 * (0 : Nat))) ∧ Below w.heap.size w w' := by
  go_enter Try.func43, Try.ntmps43
  go_wp2_with fail
  refine wp_loop_rounds 1 ?_
  rw [rounds_succ]
  go_wp2_with fail
  go_ret
  exact ⟨by simp, Below.refl _ _⟩

/-- THE MARKS ARE THERE. -/
theorem heldP_any (u : Value) (k0 : Int) (M : List Pid) (w : World) (hM : MarkedP k0 M) (h : Ids w u M) (h0 : 0 ≤ k0) (h1 : k0 ≤ 1000000000) :
    Calls Try.prog 43 #[u, .int .i64 k0] w fun e w' => e = .returned (.int .i64 (k0 + 2 * M.length)) ∧ Below w.heap.size w w' := by
  obtain ⟨a, cap, rfl, h2, h3, h4⟩ := h
  rcases h4 with h4 | ⟨b, off, rfl, h5, h6⟩
  · rw [h4]
    exact heldP_nil a cap k0 w
  · exact heldP_at b off cap k0 M w hM h5 h3 h6 h0 h1
end Go.Proofs.Ytlipmjbeiiifkaa

/- The laws' markIdS on a block with room. -/
namespace Go.Proofs.Ytlipmjbeiiifkaa
open Go.RowKit
set_option linter.unusedVariables false

/-- A block with room. -/
def Sz (w : World) (b m : Nat) : Prop := ∃ cur t, w.heap[b]? = some (.cells cur t (0, 0)) ∧ m ≤ cur.size
theorem Sz.lt {w : World} {b m : Nat} (h : Sz w b m) : b < w.heap.size := by obtain ⟨_, _, h, _⟩ := h; exact lt_of_heap h
theorem Sz.cell {w : World} {b m j : Nat} (h : Sz w b m) (hj : j < m) : ∃ y, w.cell? ⟨b, j, none⟩ = some y := by
  obtain ⟨cur, t, h1, h2⟩ := h
  exact ⟨_, (cell_of_cells h1).trans (Array.getElem?_eq_getElem (by omega))⟩
theorem Sz.free {w : World} {b m : Nat} (h : Sz w b m) (j : Nat) : w.frozen? ⟨b, j, none⟩ = false := by
  obtain ⟨cur, t, h1, h2⟩ := h; simp [World.frozen?, h1]
theorem Sz.set {w : World} {b m : Nat} (h : Sz w b m) (c o : Nat) (v : Value) : Sz (w.setCell ⟨c, o, none⟩ v) b m := by
  obtain ⟨cur, t, h1, h2⟩ := h
  by_cases e : b = c
  · subst e; exact ⟨_, t, heap_setCell_same w b o cur t v h1, by simpa using h2⟩
  · exact ⟨cur, t, (heap_setCell_other w ⟨c, o, none⟩ b v e).trans h1, h2⟩
theorem OwnP.sz {w : World} {b : Nat} {v : Value} {C : List Pid} (h : OwnP w b v C) : Sz w b (2 * C.length) := by
  obtain ⟨cap, cur, t, _, h1, _, _, h4⟩ := h
  refine ⟨cur, t, h1, ?_⟩
  by_cases hz : C.length = 0
  · omega
  · have := (h4 (C.length - 1) (by omega)).2
    rcases Nat.lt_or_ge ((C.length - 1) * 2 + 1) cur.size with hh | hh
    · omega
    · rw [Array.getElem?_eq_none hh] at this; exact absurd this (by simp)
/-- Worlds where each block keeps its room. -/
def Rm (w w' : World) : Prop := ∀ b m, Sz w b m → Sz w' b m

set_option maxRecDepth 100000 in
set_option maxHeartbeats 2000000 in
theorem markZ_any (b n cap : Nat) (k0 : Int) (w : World) (h : Sz w b (2 * n)) (hn : n ≤ 2000000) (h0 : 0 ≤ k0) (h1 : k0 ≤ 1000000000000000) :
    Calls Try.prog 42 #[.slice (some ⟨b, 0, none⟩) n cap, .int .i64 k0] w fun e w' => e = .returned (.int .i64 (k0 + 2 * n)) ∧ Rm w w' ∧ Exc (fun c => c = b) w w' := by
  have h := Lib.hid h
  go_enter Try.func42, Try.ntmps42
  go_wp2_with fail
  go_loopw [1, 5] (fun q i wr => ∃ k : Nat, k ≤ n ∧ i = .int .i64 k ∧ q = .int .i64 (k0 + 2 * k) ∧ Hid (Rm w wr) ∧ Hid (Exc (fun c => c = b) w wr)) (fun _ i _ => n - (intOf i).toNat)
  case atStart => exact ⟨0, Nat.zero_le _, rfl, by simp, Lib.hid fun _ _ x => x, Lib.hid (Exc.refl _ _)⟩
  case round =>
    obtain ⟨k, hk, rfl, rfl, hR, hE⟩ := hrel
    by_cases hlt : k < n
    · have hS := hR.out _ _ h.out
      obtain ⟨y0, c0⟩ := hS.cell (j := k * 2) (by omega)
      obtain ⟨y1, c1⟩ := hS.cell (j := k * 2 + 1) (by omega)
      have f0 := hS.free (k * 2)
      have f1 := hS.free (k * 2 + 1)
      have hs := hS.lt
      clear hS
      have hR2 := Lib.hid (fun v u b' m' (x : Sz w b' m') => ((hR.out b' m' x).set b (k * 2) v).set b (k * 2 + 1) u)
      have hE2 := Lib.hid (fun v u => (hE.out.set (b := b) (.inl rfl) (k * 2) v).set (b := b) (.inl rfl) (k * 2 + 1) u)
      clear hR hE
      go_wp2_with fail
      go_roundw
      case rel => exact ⟨k + 1, by omega, by go_num, by go_num, Lib.hid (hR2.out _ _), Lib.hid (hE2.out _ _)⟩
      case measure => simp [intOf]; omega
    · obtain rfl : k = n := by omega
      go_wp2_with fail
      go_ret
      exact ⟨rfl, hR.out, hE.out⟩
end Go.Proofs.Ytlipmjbeiiifkaa

/- A list of ids that a result has: no ids, or a block of its own; the laws' markEntry and heldEntry. -/
namespace Go.Proofs.Ytlipmjbeiiifkaa
open Go.RowKit
set_option linter.unusedVariables false

/-- No ids, or ids in a block of their own, from B on and ahead of T. -/
def OwZ (w : World) (B T : Nat) (u : Value) (C : List Pid) : Prop := (C = [] ∧ ∃ a c, u = .slice a 0 c) ∨ ∃ b, B ≤ b ∧ b < T ∧ OwnP w b u C
theorem OwZ.read {w : World} {B T : Nat} {u : Value} {C : List Pid} (h : OwZ w B T u C) : Ids w u C := by
  rcases h with ⟨rfl, a, c, rfl⟩ | ⟨b, _, _, h⟩
  · exact ⟨a, c, rfl, Nat.zero_le _, Nat.zero_le _, .inl rfl⟩
  · exact h.read
theorem OwZ.up {w w' : World} {B T : Nat} {u : Value} {C : List Pid} (h : OwZ w B T u C) (hb : Below w.heap.size w w') : OwZ w' B T u C := by
  rcases h with h | ⟨b, h1, h2, h⟩
  · exact .inl h
  · exact .inr ⟨b, h1, h2, h.up hb h.lt⟩
theorem OwZ.apart {w w' : World} {P : Nat → Prop} {B T : Nat} {u : Value} {C : List Pid} (h : OwZ w B T u C) (he : Exc P w w') (hn : ∀ b, B ≤ b → b < T → ¬ P b) : OwZ w' B T u C := by
  rcases h with h | ⟨b, h1, h2, h⟩
  · exact .inl h
  · exact .inr ⟨b, h1, h2, h.same (he.block b h.lt (hn b h1 h2))⟩
theorem OwZ.of {w : World} {B b : Nat} {u : Value} {C : List Pid} (h : OwnP w b u C) (hb : B ≤ b) : OwZ w B w.heap.size u C := .inr ⟨b, hb, h.lt, h⟩
theorem OwZ.wide {w : World} {B T B' T' : Nat} {u : Value} {C : List Pid} (h : OwZ w B T u C) (h1 : B' ≤ B) (h2 : T ≤ T') : OwZ w B' T' u C := by
  rcases h with h | ⟨b, g1, g2, h⟩
  · exact .inl h
  · exact .inr ⟨b, by omega, by omega, h⟩

theorem markI_nil (a : Option Addr) (c : Nat) (k0 : Int) (w : World) :
    Calls Try.prog 42 #[.slice a 0 c, .int .i64 k0] w fun e w' => e = .returned (.int .i64 k0) ∧ Below w.heap.size w w' := by
  go_enter Try.func42, Try.ntmps42
  go_wp2_with fail
  refine wp_loop_rounds 1 ?_
  rw [rounds_succ]
  go_wp2_with fail
  go_ret
  exact ⟨rfl, Below.refl _ _⟩
theorem markI_z (B T : Nat) (u : Value) (C : List Pid) (k0 : Int) (w : World) (h : OwZ w B T u C) (h0 : 0 ≤ k0) (h1 : k0 ≤ 1000000000) :
    Calls Try.prog 42 #[u, .int .i64 k0] w fun e w' => e = .returned (.int .i64 (k0 + 2 * C.length)) ∧ ∃ M, M.length = C.length ∧ MarkedP k0 M ∧ OwZ w' B T u M ∧ Exc (fun c => B ≤ c ∧ c < T) w w' := by
  rcases h with ⟨rfl, a, c, rfl⟩ | ⟨b, hb, ht, h⟩
  · refine (markI_nil a c k0 w).mono ?_
    rintro e w' ⟨rfl, B⟩
    exact ⟨by simp, [], rfl, fun j hj => absurd hj (by simp), .inl ⟨rfl, a, c, rfl⟩, Exc.of B⟩
  · refine (markP_any b u C k0 w h h0 h1).mono ?_
    rintro e w' ⟨rfl, M, hM, hk, hO, K⟩
    exact ⟨rfl, M, hM, hk, .inr ⟨b, hb, ht, hO⟩, ⟨K.os, K.tape, K.output, K.size, fun c hc hn => K.block c hc (fun e => hn (by subst e; exact ⟨hb, ht⟩))⟩⟩

set_option maxRecDepth 100000 in
set_option maxHeartbeats 2000000 in
/-- MARKS IN AN ENTRY. -/
theorem markE_z (B T : Nat) (x : En) (u : Value) (C : List Pid) (k0 : Int) (w : World) (h : OwZ w B T u C) (h0 : 0 ≤ k0) (h1 : k0 ≤ 1000000000) :
    Calls Try.prog 20 #[env x u, .int .i64 k0] w fun e w' => e = .returned (.int .i64 (k0 + 2 * C.length)) ∧ ∃ M, M.length = C.length ∧ MarkedP k0 M ∧ OwZ w' B T u M ∧ Exc (fun c => B ≤ c ∧ c < T) w w' := by
  have sc := fun W (hb : Below w.heap.size w W) => markI_z B T u C k0 W (h.up hb) h0 h1
  obtain ⟨ua, un, uc, rfl⟩ : ∃ ua un uc, u = .slice ua un uc := by obtain ⟨a, c, e, _⟩ := h.read; exact ⟨a, _, c, e⟩
  unfold env
  have B0 := Lib.hid ((Below.refl w.heap.size w).alloc (Nat.le_refl _) (.cells #[.int .i64 x.id.1, .int .i64 x.id.2, .int .i64 x.bal, .int .i64 x.st, .int .i64 x.k, .int .i64 x.key, .int .i64 x.v, .int .i64 x.seq, .slice ua un uc] 30))
  clear h
  go_enter Try.func20, Try.ntmps20
  go_wp2_with fail
  refine (sc _ B0.out).mono ?_
  rintro e w1 ⟨rfl, M, hM, hk, hO, X⟩
  have R := Lib.hid (show ∃ M, M.length = C.length ∧ MarkedP k0 M ∧ OwZ w1 B T (.slice ua un uc) M ∧ Exc (fun c => B ≤ c ∧ c < T) w w1 from ⟨M, hM, hk, hO, (Exc.of B0.out).trans X (fun _ _ h => h)⟩)
  clear X hO hk hM sc B0
  go_wp2_with fail
  go_ret
  exact ⟨rfl, R.out⟩
end Go.Proofs.Ytlipmjbeiiifkaa
