/- Texts laid together. -/
import Derived.Test.YtigaepbhbfpijaaProg
import Derived.WalkKit
import Derived.WalkSpells
import Derived.Lib.Hide
import Derived.Deep.QuietTactic
import Derived.BigQuiet
import Derived.Test.YtigaepbhbfpijaaC01
import Derived.Deep.DeepCutAuto
import Derived.OwnWalk
import Derived.Test.YtigaepbhbfpijaaC03
import Derived.Test.YtigaepbhbfpijaaC02
import Derived.Deep.RegionLaw
import Derived.Test.YtigaepbhbfpijaaRows
import Derived.ProofKit
import Derived.OpenShut
import Derived.ChangeOld
import Derived.Lib.SmallJoins
import Derived.Deep.RegionWith
/- The reader of codes (spec.l6Rd): what it holds, and its pick. -/
namespace Go.Proofs.Ytigaepbhbfpijaa
open Go.RowKit
set_option linter.unusedVariables false

/-- Below block B, block r aside, the world is as it was. -/
structure Keep (B r : Nat) (w w' : World) : Prop where
  os : w'.os = w.os
  tape : w'.tape = w.tape
  output : w'.output = w.output
  size : w.heap.size ≤ w'.heap.size
  block : ∀ k, k < B → k ≠ r → w'.heap[k]? = w.heap[k]?

theorem Keep.refl (B r : Nat) (w : World) : Keep B r w w := ⟨rfl, rfl, rfl, Nat.le_refl _, fun _ _ _ => rfl⟩
theorem Keep.trans {B r : Nat} {a b c : World} (h : Keep B r a b) (k : Keep B r b c) : Keep B r a c :=
  ⟨k.os.trans h.os, k.tape.trans h.tape, k.output.trans h.output, Nat.le_trans h.size k.size, fun i hi hr => (k.block i hi hr).trans (h.block i hi hr)⟩
theorem Keep.mono {B B' r : Nat} {w w' : World} (h : Keep B r w w') (hB : B' ≤ B) : Keep B' r w w' := ⟨h.os, h.tape, h.output, h.size, fun k hk => h.block k (Nat.lt_of_lt_of_le hk hB)⟩
theorem Keep.of_below {B r : Nat} {w w' : World} (h : Below B w w') : Keep B r w w' := ⟨h.os, h.tape, h.output, h.size, fun k hk _ => h.block k hk⟩
theorem Keep.below {B r : Nat} {w w' : World} (h : Keep B r w w') (hr : B ≤ r) : Below B w w' := ⟨h.os, h.tape, h.output, h.size, fun k hk => h.block k hk (by omega)⟩
theorem Keep.drewN {B r : Nat} {a w : World} (h : Keep B r a w) (n : Nat) : Keep B r a (w.drewN n) := ⟨h.os, h.tape, h.output, h.size, h.block⟩
theorem Keep.alloc {B r : Nat} {a w : World} (h : Keep B r a w) (hB : B ≤ w.heap.size) (o : Obj) : Keep B r a (w.alloc o) :=
  h.trans (Keep.of_below ((Below.refl B w).alloc hB o))
theorem Keep.setCell {B r : Nat} {a w : World} (h : Keep B r a w) {p : Addr} (hp : B ≤ p.block) (u : Value) : Keep B r a (w.setCell p u) :=
  h.trans (Keep.of_below ((Below.refl B w).setCell hp u))
theorem Keep.setR {B r : Nat} {a w : World} (h : Keep B r a w) (i : Nat) (u : Value) : Keep B r a (w.setCell ⟨r, i, none⟩ u) :=
  h.trans ⟨rfl, rfl, rfl, by simp [World.setCell], fun k _ hk => Below.heap_setCell _ _ _ _ hk⟩

/-- What a walk takes of it: cells and marks of blocks behind r that were there. -/
theorem kcell {r : Nat} {W w1 : World} (hb : Keep W.heap.size r W w1) : (∀ b o, r < b → b < W.heap.size → w1.cell? ⟨b, o, none⟩ = W.cell? ⟨b, o, none⟩) ∧ (∀ b o, r < b → b < W.heap.size → w1.frozen? ⟨b, o, none⟩ = W.frozen? ⟨b, o, none⟩) :=
  ⟨fun b o hr h => World.cell?_of_block (a := ⟨b, o, none⟩) (hb.block b h (by omega)), fun b o hr h => World.frozen?_of_block (a := ⟨b, o, none⟩) (hb.block b h (by omega))⟩

/-- The bytes of a code: none, or the cells of a block. -/
def Bytes (w : World) (r : Nat) (a : Option Addr) (len : Nat) : Prop :=
  len = 0 ∨ ∃ b off, a = some ⟨b, off, none⟩ ∧ b < r ∧ ∀ i, i < len → ∃ z : Int, 0 ≤ z ∧ z ≤ 255 ∧ w.cell? ⟨b, off + i, none⟩ = some (.int .u8 z)

/-- A reader in block r, at a place up to n. -/
def Rd (w : World) (r n : Nat) : Prop :=
  ∃ (a : Option Addr) (len cap : Nat) (p : Int), w.cell? ⟨r, 0, none⟩ = some (.slice a len cap) ∧ w.cell? ⟨r, 1, none⟩ = some (.int .i64 p) ∧ w.frozen? ⟨r, 1, none⟩ = false ∧ 0 ≤ p ∧ p ≤ n ∧ len ≤ 2000 ∧ r < w.heap.size ∧ Bytes w r a len


/-- What pick leaves. -/
def PickPost (k : Int) (r n : Nat) (w : World) (e : Ending) (w' : World) : Prop :=
  ∃ x : Int, e = .returned (.int .i64 x) ∧ 0 ≤ x ∧ (1 ≤ k → x < k) ∧ Rd w' r (n + 1) ∧ Keep w.heap.size r w w'

theorem Bytes.kept {w w' : World} {r : Nat} {a : Option Addr} {len : Nat} (h : Bytes w r a len) (hk : ∀ k, k < r → w'.heap[k]? = w.heap[k]?) : Bytes w' r a len := by
  rcases h with h | ⟨b, off, e, hb, hc⟩
  · exact .inl h
  · exact .inr ⟨b, off, e, hb, fun i hi => by
      obtain ⟨z, z0, z1, hz⟩ := hc i hi
      exact ⟨z, z0, z1, (World.cell?_of_block (a := ⟨b, off + i, none⟩) (hk b hb)).trans hz⟩⟩

/-- A reader is still the reader where nothing up to its block has turned. -/
theorem Rd.kept {w w' : World} {r n : Nat} (h : Rd w r n) (hb : Below (r + 1) w w') : Rd w' r n := by
  obtain ⟨a, len, cap, p, h0, h1, hf, hp0, hp1, hl, hr, hby⟩ := h
  exact ⟨a, len, cap, p, (hb.cell (p := ⟨r, 0, none⟩) (Nat.lt_succ_self r)).trans h0, (hb.cell (p := ⟨r, 1, none⟩) (Nat.lt_succ_self r)).trans h1, (hb.frozen (p := ⟨r, 1, none⟩) (Nat.lt_succ_self r)).trans hf, hp0, hp1, hl, Nat.lt_of_lt_of_le hr hb.size, hby.kept (fun k hk => hb.block k (by omega))⟩

theorem Rd.more {w : World} {r n m : Nat} (h : Rd w r n) (hm : n ≤ m) : Rd w r m := by
  obtain ⟨a, len, cap, p, h0, h1, hf, hp0, hp1, hl, hr, hby⟩ := h
  exact ⟨a, len, cap, p, h0, h1, hf, hp0, by omega, hl, hr, hby⟩

theorem Rd.lt {w : World} {r n : Nat} (h : Rd w r n) : r < w.heap.size := by
  obtain ⟨a, len, cap, p, h0, h1, hf, hp0, hp1, hl, hr, hby⟩ := h
  exact hr

/-- The place goes on by one. -/
theorem rd_next {w : World} {r n : Nat} {a : Option Addr} {len cap : Nat} {p : Int} (h0 : w.cell? ⟨r, 0, none⟩ = some (.slice a len cap)) (h1 : w.cell? ⟨r, 1, none⟩ = some (.int .i64 p)) (hf : w.frozen? ⟨r, 1, none⟩ = false)
    (hp0 : 0 ≤ p) (hp1 : p ≤ n) (hl : len ≤ 2000) (hr : r < w.heap.size) (hb : Bytes w r a len) : Rd (w.setCell ⟨r, 1, none⟩ (.int .i64 (p + 1))) r (n + 1) := by
  refine ⟨a, len, cap, p + 1, ?_, ?_, ?_, by omega, by omega, hl, by simpa using hr, hb.kept fun k hk => Below.heap_setCell _ _ _ _ (by simp; omega)⟩
  · go_simp
  · go_simp
  · go_simp

theorem Rd.alloc {w : World} {r n : Nat} (h : Rd w r n) (o : Obj) : Rd (w.alloc o) r n :=
  h.kept ((Below.refl _ _).alloc (Nat.succ_le_of_lt h.lt) _)
theorem Rd.setCell {w : World} {r n : Nat} (h : Rd w r n) {p : Addr} (hp : r < p.block) (u : Value) : Rd (w.setCell p u) r n :=
  h.kept ((Below.refl _ _).setCell (Nat.succ_le_of_lt hp) _)
theorem Rd.drewN {w : World} {r n : Nat} (h : Rd w r n) (m : Nat) : Rd (w.drewN m) r n :=
  h.kept ⟨rfl, rfl, rfl, Nat.le_refl _, fun _ _ => rfl⟩

theorem xor_i64 (a b : Nat) (ha : a < 9223372036854775808) (hb : b < 9223372036854775808) : bits .xor .i64 (a : Int) (b : Int) = ((a ^^^ b : Nat) : Int) := by
  have hx : a ^^^ b < 2 ^ 63 := Nat.xor_lt_two_pow (by omega) (by omega)
  have h1 : (BitVec.ofInt 64 (a : Int)).toNat = a := by
    rw [BitVec.ofInt_natCast, BitVec.toNat_ofNat]; exact Nat.mod_eq_of_lt (by omega)
  have h2 : (BitVec.ofInt 64 (b : Int)).toNat = b := by
    rw [BitVec.ofInt_natCast, BitVec.toNat_ofNat]; exact Nat.mod_eq_of_lt (by omega)
  show IntKind.i64.wrap ((BitVec.ofInt 64 (a : Int) ^^^ BitVec.ofInt 64 (b : Int)).toNat : Int) = _
  rw [BitVec.toNat_xor, h1, h2, IntKind.wrap_i64]
  omega

theorem xor_nn (x y : Int) (hx : 0 ≤ x) (hx' : x < 9223372036854775808) (hy : 0 ≤ y) (hy' : y < 9223372036854775808) : 0 ≤ bits .xor .i64 x y := by
  obtain ⟨a, rfl⟩ := Int.eq_ofNat_of_zero_le hx
  obtain ⟨b, rfl⟩ := Int.eq_ofNat_of_zero_le hy
  rw [xor_i64 a b (by omega) (by omega)]
  omega

set_option maxRecDepth 100000 in
set_option maxHeartbeats 1000000 in
theorem pick_low (k : Int) (r n : Nat) (w : World) (hrd : Rd w r n) (hn : n ≤ 1000000000) (hk : k < 1) :
    Calls Try.prog 19 #[.pointer (some ⟨r, 0, none⟩), .int .i64 k] w (PickPost k r n w) := by
  obtain ⟨a, len, cap, p, h0, h1, hf, hp0, hp1, hl, hr, hb⟩ := hrd
  have hnx := Lib.hid (rd_next h0 h1 hf hp0 hp1 hl hr hb)
  go_enter Try.func19, Try.ntmps19
  go_wp2_with fail
  go_ret
  exact ⟨0, rfl, Int.le_refl _, fun h => by omega, hnx.out, (Keep.refl _ _ _).setR _ _⟩

set_option maxRecDepth 100000 in
set_option maxHeartbeats 1000000 in
theorem pick_nil (k : Int) (r n : Nat) (w : World) (a : Option Addr) (cap : Nat) (p : Int) (h0 : w.cell? ⟨r, 0, none⟩ = some (.slice a 0 cap)) (h1 : w.cell? ⟨r, 1, none⟩ = some (.int .i64 p)) (hf : w.frozen? ⟨r, 1, none⟩ = false)
    (hp0 : 0 ≤ p) (hp1 : p ≤ n) (hr : r < w.heap.size) (hb : Bytes w r a 0) (hn : n ≤ 1000000000) (hk : 1 ≤ k) :
    Calls Try.prog 19 #[.pointer (some ⟨r, 0, none⟩), .int .i64 k] w (PickPost k r n w) := by
  have hnx := Lib.hid (rd_next h0 h1 hf hp0 hp1 (by omega) hr hb)
  go_enter Try.func19, Try.ntmps19
  go_wp2_with fail
  go_ret
  exact ⟨0, rfl, Int.le_refl _, fun h => by omega, hnx.out, (Keep.refl _ _ _).setR _ _⟩

set_option maxRecDepth 100000 in
set_option maxHeartbeats 1000000 in
theorem pick_at (k : Int) (r n : Nat) (w : World) (len cap : Nat) (p b off : Nat) (h0 : w.cell? ⟨r, 0, none⟩ = some (.slice (some ⟨b, off, none⟩) len cap)) (h1 : w.cell? ⟨r, 1, none⟩ = some (.int .i64 p)) (hf : w.frozen? ⟨r, 1, none⟩ = false)
    (hp1 : p ≤ n) (hl : len ≤ 2000) (hr : r < w.heap.size) (hb : Bytes w r (some ⟨b, off, none⟩) len) (hn : n ≤ 1000000000) (hbr : b < r) (hk : 1 ≤ k) (hpl : p < len) (z : Int) (hz : w.cell? ⟨b, off + p, none⟩ = some (.int .u8 z)) (hz0 : 0 ≤ z) (hz1 : z ≤ 255) :
    Calls Try.prog 19 #[.pointer (some ⟨r, 0, none⟩), .int .i64 k] w (PickPost k r n w) := by
  have hnx := Lib.hid (rd_next (n := n) h0 h1 hf (by omega) (by omega) hl hr hb)
  have hne : ((len : Int) == 0) = false := by simp; omega
  go_enter Try.func19, Try.ntmps19
  go_wp2_with fail
  go_ret
  exact ⟨z % k, rfl, Int.emod_nonneg _ (by omega), fun h => Int.emod_lt_of_pos _ (by omega), hnx.out, (Keep.refl _ _ _).setR _ _⟩

set_option maxRecDepth 100000 in
set_option maxHeartbeats 1000000 in
theorem pick_past (k : Int) (r n : Nat) (w : World) (len cap : Nat) (p : Int) (b off : Nat) (h0 : w.cell? ⟨r, 0, none⟩ = some (.slice (some ⟨b, off, none⟩) len cap)) (h1 : w.cell? ⟨r, 1, none⟩ = some (.int .i64 p)) (hf : w.frozen? ⟨r, 1, none⟩ = false)
    (hp0 : 0 ≤ p) (hp1 : p ≤ n) (hl : len ≤ 2000) (hr : r < w.heap.size) (hb : Bytes w r (some ⟨b, off, none⟩) len) (hn : n ≤ 1000000000) (hl0 : 0 < len) (hbr : b < r) (hk : 1 ≤ k) (hpl : len ≤ p) (z1 z2 : Int) (hz1 : w.cell? ⟨b, off + (p % len).toNat, none⟩ = some (.int .u8 z1)) (hz2 : w.cell? ⟨b, off + ((p * 7 + 3) % len).toNat, none⟩ = some (.int .u8 z2)) (hz : 0 ≤ z1 ∧ z1 ≤ 255 ∧ 0 ≤ z2 ∧ z2 ≤ 255) :
    Calls Try.prog 19 #[.pointer (some ⟨r, 0, none⟩), .int .i64 k] w (PickPost k r n w) := by
  have hnx := Lib.hid (rd_next h0 h1 hf hp0 hp1 hl hr hb)
  have hne : ((len : Int) == 0) = false := by simp; omega
  have c1 : p.tmod len = p % len := Int.tmod_eq_emod_of_nonneg hp0
  have c2 : IntKind.i64.wrap (p * 7) = p * 7 := IntWalk.i64_in _ (by omega)
  have c3 : IntKind.i64.wrap (p * 7 + 3) = p * 7 + 3 := IntWalk.i64_in _ (by omega)
  have c4 : (p * 7 + 3).tmod len = (p * 7 + 3) % len := Int.tmod_eq_emod_of_nonneg (by omega)
  have c5 : 0 ≤ p % len := Int.emod_nonneg _ (by omega)
  have c6 : p % len < len := Int.emod_lt_of_pos _ (by omega)
  have c7 : 0 ≤ (p * 7 + 3) % len := Int.emod_nonneg _ (by omega)
  have c8 : (p * 7 + 3) % len < len := Int.emod_lt_of_pos _ (by omega)
  have c9 : 0 ≤ p / len := Int.ediv_nonneg hp0 (by omega)
  have c10 : p / len ≤ 1000000000 := Int.le_trans (Int.ediv_le_self _ hp0) (by omega)
  have c11 : IntKind.i64.wrap (p / len * 53) = p / len * 53 := IntWalk.i64_in _ (by omega)
  have c12 : IntKind.i64.wrap (z1 * 131 + z2 * 1117 + p * 29 + p / len * 53) = z1 * 131 + z2 * 1117 + p * 29 + p / len * 53 := IntWalk.i64_in _ (by omega)
  have c13 : 0 ≤ z1 * 131 + z2 * 1117 + p * 29 + p / len * 53 := by omega
  have c14 := Lib.hid (xor_nn (z1 * 131 + z2 * 1117 + p * 29 + p / len * 53) ((z1 * 131 + z2 * 1117 + p * 29 + p / len * 53) / 64) c13 (by omega) (by omega) (by omega))
  go_enter Try.func19, Try.ntmps19
  go_wp2_with fail
  go_quiet (fail)
  go_wp2_with fail
  go_ret
  exact ⟨_, rfl, Int.tmod_nonneg _ c14.out, fun h => Int.tmod_lt_of_pos _ (by omega), hnx.out.drewN _, ((Keep.refl _ _ _).setR _ _).drewN _⟩

/-- PICK: a number from 0 to k-1 (0 if k is less than 1); the place goes on by one; all else is as it was. -/
theorem pick_any (k : Int) (r n : Nat) (w : World) (hrd : Rd w r n) (hn : n ≤ 1000000000) :
    Calls Try.prog 19 #[.pointer (some ⟨r, 0, none⟩), .int .i64 k] w (PickPost k r n w) := by
  by_cases hk : k < 1
  · exact pick_low k r n w hrd hn hk
  · obtain ⟨a, len, cap, p, h0, h1, hf, hp0, hp1, hl, hr, hb⟩ := hrd
    have hb' := hb
    rcases hb' with rfl | ⟨b, off, rfl, hbr, hc⟩
    · exact pick_nil k r n w a cap p h0 h1 hf hp0 hp1 hr hb hn (by omega)
    · by_cases hz : len = 0
      · subst hz
        exact pick_nil k r n w _ cap p h0 h1 hf hp0 hp1 hr hb hn (by omega)
      · by_cases hpl : p < len
        · obtain ⟨q, rfl⟩ := Int.eq_ofNat_of_zero_le hp0
          obtain ⟨z, z0, z1, hz⟩ := hc q (by omega)
          exact pick_at k r n w len cap q b off h0 h1 hf (by omega) hl hr hb hn hbr (by omega) (by omega) z hz z0 z1
        · have c5 : 0 ≤ p % len := Int.emod_nonneg _ (by omega)
          have c6 : p % len < len := Int.emod_lt_of_pos _ (by omega)
          have c7 : 0 ≤ (p * 7 + 3) % len := Int.emod_nonneg _ (by omega)
          have c8 : (p * 7 + 3) % len < len := Int.emod_lt_of_pos _ (by omega)
          obtain ⟨z1, a1, a2, hz1⟩ := hc (p % len).toNat (by omega)
          obtain ⟨z2, b1, b2, hz2⟩ := hc ((p * 7 + 3) % len).toNat (by omega)
          exact pick_past k r n w len cap p b off h0 h1 hf hp0 hp1 hl hr hb hn (by omega) hbr (by omega) (by omega) z1 z2 hz1 hz2 ⟨a1, a2, b1, b2⟩
end Go.Proofs.Ytigaepbhbfpijaa

/- A reader is opened; codes that came in. -/
namespace Go.Proofs.Ytigaepbhbfpijaa
open Go.RowKit
set_option linter.unusedVariables false

/-- A code that came in: its bytes lie in old memory. -/
def CodeIn (w : World) (a : Option Addr) (len cap : Nat) : Prop := len ≤ cap ∧ Bytes w w.heap.size a len

/-- What l6Open leaves. -/
def OpenPost (w : World) (e : Ending) (w' : World) : Prop :=
  ∃ r : Nat, e = .returned (.pointer (some ⟨r, 0, none⟩)) ∧ w.heap.size ≤ r ∧ Rd w' r 0 ∧ Below w.heap.size w w'

theorem rd_new (w : World) (a : Option Addr) (len cap : Nat) (hl : len ≤ 2000) (hb : Bytes w w.heap.size a len) (t : TypeId) : Rd (w.alloc (.cells #[.slice a len cap, .int .i64 0] t)) w.heap.size 0 :=
  ⟨a, len, cap, 0, by go_simp, by go_simp, by go_simp, Int.le_refl _, by omega, hl, by simp, hb.kept (fun k hk => Below.heap_alloc _ _ _ hk)⟩

theorem open_any (a : Option Addr) (len cap : Nat) (w : World) (hc : CodeIn w a len cap) (hcap : cap ≤ maxLen) :
    Calls Try.prog 17 #[.slice a len cap] w (OpenPost w) := by
  unfold maxLen at hcap
  obtain ⟨hlc, hb⟩ := hc
  by_cases hl : 2000 < len
  · have hb2 : Bytes w w.heap.size a 2000 := by
      rcases hb with rfl | ⟨b, off, e, hb, hc⟩
      · omega
      · exact .inr ⟨b, off, e, hb, fun i hi => hc i (by omega)⟩
    obtain ⟨b, off, rfl, _⟩ : ∃ b off, a = some ⟨b, off, none⟩ ∧ True := by
      rcases hb with rfl | ⟨b, off, e, hb, hc⟩
      · omega
      · exact ⟨b, off, e, trivial⟩
    have hn := Lib.hid (rd_new w (some ⟨b, off, none⟩) 2000 cap (Nat.le_refl _) hb2 54)
    clear hb hb2
    go_enter Try.func17, Try.ntmps17
    go_wp2_with fail
    go_ret
    exact ⟨_, rfl, Nat.le_refl _, hn.out, (Below.refl _ _).alloc (Nat.le_refl _) _⟩
  · have hn := Lib.hid (rd_new w a len cap (by omega) hb 54)
    clear hb
    go_enter Try.func17, Try.ntmps17
    go_wp2_with fail
    go_ret
    exact ⟨_, rfl, Nat.le_refl _, hn.out, (Below.refl _ _).alloc (Nat.le_refl _) _⟩

theorem Bytes.up {w w' : World} {r r' : Nat} {a : Option Addr} {len : Nat} (h : Bytes w r a len) (hr : r ≤ r') (hb : Below r w w') : Bytes w' r' a len := by
  rcases h.kept (w' := w') (fun k hk => hb.block k hk) with h | ⟨b, off, e, hb, hc⟩
  · exact .inl h
  · exact .inr ⟨b, off, e, by omega, hc⟩

/-- A code is a code still where elder memory is as it was. -/
theorem CodeIn.up {w w' : World} {a : Option Addr} {len cap : Nat} (h : CodeIn w a len cap) (hb : Below w.heap.size w w') : CodeIn w' a len cap :=
  ⟨h.1, h.2.up hb.size hb⟩
theorem row_keep {w w' : World} {r base n size : Nat} {t : TypeId} {v : Value} {xs : List Value} (h : w.ownsRow base t size v n xs) (hk : Keep w.heap.size r w w') (hr : r < base) : w'.ownsRow base t size v n xs :=
  h.kept (row := some r) ⟨hk.os, hk.tape, hk.output, hk.size, fun k h1 h2 => hk.block k h1 (fun e => h2 (by rw [e]))⟩ (by
    cases hv : v.ownBlock with
    | none => exact .inl rfl
    | some k =>
      have := (h.lt k hv).1
      exact .inr (by intro e; injection e with e; omega))
end Go.Proofs.Ytigaepbhbfpijaa

/- Draws of ids: l91Id, DrawIdValid, DrawIdBefore. -/
namespace Go.Proofs.Ytigaepbhbfpijaa
open Go.RowKit
set_option linter.unusedVariables false

/-- What l91Id leaves: some id; the reader up to four places further. -/
def IdPost (r n : Nat) (w : World) (e : Ending) (w' : World) : Prop :=
  ∃ k v : Int, e = .returned (.agg #[.int .i64 k, .int .i64 v]) ∧ (-1 ≤ k ∧ k ≤ 5) ∧ (0 ≤ v ∧ v ≤ 51) ∧ Rd w' r (n + 4) ∧ Keep w.heap.size r w w'

set_option maxRecDepth 100000 in
set_option maxHeartbeats 2000000 in
theorem idd_any (r n : Nat) (w : World) (hrd : Rd w r n) (hn : n ≤ 900000000) :
    Calls Try.prog 34 #[.pointer (some ⟨r, 0, none⟩)] w (IdPost r n w) := by
  have hlt := hrd.lt
  have hb1 := Lib.hid hrd
  clear hrd
  go_enter Try.func34, Try.ntmps34
  go_wp2_with fail
  refine (pick_any 3 r n _ (hb1.out.kept ((Below.refl _ _).alloc (by omega) _)) (by omega)).mono ?_
  rintro e w1 ⟨x1, rfl, a0, a1', hr1', hk1'⟩
  have a1 := a1' (by omega); have hs1 : w.heap.size + 1 ≤ w1.heap.size := by simpa using hk1'.size
  have hk1 := Lib.hid hk1'; have hr1 := Lib.hid hr1'; clear a1' hr1' hk1'
  go_wp2_with fail
  refine (pick_any 4 r (n + 1) _ hr1.out (by omega)).mono ?_
  rintro e w2 ⟨x2, rfl, b0, b1', hr2', hk2'⟩
  have b1 := b1' (by omega); have hs2 := hk2'.size
  have hk2 := Lib.hid hk2'; have hr2 := Lib.hid hr2'; clear b1' hr2' hk2'
  go_wp2_with fail
  refine (pick_any 40 r (n + 2) _ (hr2.out.alloc _) (by omega)).mono ?_
  rintro e w3 ⟨x3, rfl, d0, d1', hr3', hk3'⟩
  have d1 := d1' (by omega); have hs3 : w2.heap.size + 1 ≤ w3.heap.size := by simpa using hk3'.size
  have hrl2 := hr2.out.lt
  have hrl : r < w.heap.size := hlt
  have hAC : w.heap.size < w2.heap.size := by omega
  have A1 : w1.heap[w.heap.size]? = some (.cells #[.int .i64 0, .int .i64 0] 41 (0, 0)) := (hk1.out.block _ (by simp) (by omega)).trans (heap_alloc_new w _)
  have A2 := (hk2.out.block w.heap.size (by omega) (by omega)).trans A1
  have A3 := (hk3'.block w.heap.size (by simp; omega) (by omega)).trans ((Below.heap_alloc w2 _ _ (by omega)).trans A2)
  have C3 := (hk3'.block w2.heap.size (by simp) (by omega)).trans (heap_alloc_new w2 _)
  have K3 : Hid (Keep w.heap.size r w w3) := Lib.hid ((((Keep.refl _ _ _).alloc (Nat.le_refl _) _).trans (hk1.out.mono (by simp))).trans (hk2.out.mono (by omega)) |>.alloc (by omega) _ |>.trans (hk3'.mono (by simp; omega)))
  obtain ⟨a30, a31, f30, f31⟩ := blk2 A3
  obtain ⟨c30, c31, g30, g31⟩ := blk2 C3
  have A3 := Lib.hid A3
  have C3 := Lib.hid C3
  have hr3 := Lib.hid hr3'; clear d1' hr3' hk3' A1 A2 hk1 hk2 hr1 hr2
  by_cases z0 : x3 = 0
  · subst z0
    go_wp2_with fail
    refine (pick_any 3 r (n + 3) _ (hr3.out.alloc _) (by omega)).mono ?_
    rintro e w6 ⟨x6, rfl, y0, y1', hr6, hk6⟩
    have y1 := y1' (by omega)
    have hs6 : w3.heap.size + 1 ≤ w6.heap.size := by simpa using hk6.size
    have A6 := (hk6.block w.heap.size (by simp; omega) (by omega)).trans ((Below.heap_alloc w3 _ _ (by omega)).trans A3.out)
    have C6 := (hk6.block w2.heap.size (by simp; omega) (by omega)).trans ((Below.heap_alloc w3 _ _ (by omega)).trans C3.out)
    have L6 := (hk6.block w3.heap.size (by simp) (by omega)).trans (heap_alloc_new w3 _)
    have K6 := Lib.hid ((K3.out.alloc (by omega) _).trans (hk6.mono (by simp; omega)))
    obtain ⟨a60, a61, f60, f61⟩ := blk2 A6
    obtain ⟨c60, c61, g60, g61⟩ := blk2 C6
    obtain ⟨l60, l61, l62, _, _, _⟩ := blk3 L6
    have hr6 := Lib.hid hr6
    clear y1' hk6 A6 C6 L6 A3 C3 K3 hr3 a30 a31 f30 f31 c30 c31 g30 g31
    rcases (show x6 = 0 ∨ x6 = 1 ∨ x6 = 2 by omega) with rfl | rfl | rfl
    · go_wp2_with fail
      exact bodyPost_ret (v := .agg #[.int .i64 (-1), .int .i64 (1 + x2)]) (by simp [results, Try.results34, go_sem, a60, a61]) rfl ⟨-1, 1 + x2, rfl, by omega, by omega, (((hr6.out.setCell hrl2 _).setCell hrl _).setCell hrl _).more (by omega), ((K6.out.setCell (Nat.le_of_lt hAC) _).setCell (Nat.le_refl _) _).setCell (Nat.le_refl _) _⟩
    · go_wp2_with fail
      exact bodyPost_ret (v := .agg #[.int .i64 4, .int .i64 (1 + x2)]) (by simp [results, Try.results34, go_sem, a60, a61]) rfl ⟨4, 1 + x2, rfl, by omega, by omega, (((hr6.out.setCell hrl2 _).setCell hrl _).setCell hrl _).more (by omega), ((K6.out.setCell (Nat.le_of_lt hAC) _).setCell (Nat.le_refl _) _).setCell (Nat.le_refl _) _⟩
    · go_wp2_with fail
      exact bodyPost_ret (v := .agg #[.int .i64 5, .int .i64 (1 + x2)]) (by simp [results, Try.results34, go_sem, a60, a61]) rfl ⟨5, 1 + x2, rfl, by omega, by omega, (((hr6.out.setCell hrl2 _).setCell hrl _).setCell hrl _).more (by omega), ((K6.out.setCell (Nat.le_of_lt hAC) _).setCell (Nat.le_refl _) _).setCell (Nat.le_refl _) _⟩
  · have z0' : (x3 == 0) = false := by simpa using z0
    clear z0
    by_cases z1 : x3 = 1
    · subst z1
      go_wp2_with fail
      refine (pick_any 3 r (n + 3) _ (hr3.out.alloc _) (by omega)).mono ?_
      rintro e w6 ⟨x6, rfl, y0, y1', hr6, hk6⟩
      have y1 := y1' (by omega)
      have hs6 : w3.heap.size + 1 ≤ w6.heap.size := by simpa using hk6.size
      have A6 := (hk6.block w.heap.size (by simp; omega) (by omega)).trans ((Below.heap_alloc w3 _ _ (by omega)).trans A3.out)
      have C6 := (hk6.block w2.heap.size (by simp; omega) (by omega)).trans ((Below.heap_alloc w3 _ _ (by omega)).trans C3.out)
      have L6 := (hk6.block w3.heap.size (by simp) (by omega)).trans (heap_alloc_new w3 _)
      have K6 := Lib.hid ((K3.out.alloc (by omega) _).trans (hk6.mono (by simp; omega)))
      obtain ⟨a60, a61, f60, f61⟩ := blk2 A6
      obtain ⟨c60, c61, g60, g61⟩ := blk2 C6
      obtain ⟨l60, l61, l62, _, _, _⟩ := blk3 L6
      have hr6 := Lib.hid hr6
      clear y1' hk6 A6 C6 L6 A3 C3 K3 hr3 a30 a31 f30 f31 c30 c31 g30 g31
      rcases (show x6 = 0 ∨ x6 = 1 ∨ x6 = 2 by omega) with rfl | rfl | rfl
      · go_wp2_with fail
        exact bodyPost_ret (v := .agg #[.int .i64 x1, .int .i64 0]) (by simp [results, Try.results34, go_sem, a60, a61]) rfl ⟨x1, 0, rfl, by omega, by omega, (((hr6.out.setCell hrl2 _).setCell hrl _).setCell hrl _).more (by omega), ((K6.out.setCell (Nat.le_of_lt hAC) _).setCell (Nat.le_refl _) _).setCell (Nat.le_refl _) _⟩
      · go_wp2_with fail
        exact bodyPost_ret (v := .agg #[.int .i64 x1, .int .i64 50]) (by simp [results, Try.results34, go_sem, a60, a61]) rfl ⟨x1, 50, rfl, by omega, by omega, (((hr6.out.setCell hrl2 _).setCell hrl _).setCell hrl _).more (by omega), ((K6.out.setCell (Nat.le_of_lt hAC) _).setCell (Nat.le_refl _) _).setCell (Nat.le_refl _) _⟩
      · go_wp2_with fail
        exact bodyPost_ret (v := .agg #[.int .i64 x1, .int .i64 51]) (by simp [results, Try.results34, go_sem, a60, a61]) rfl ⟨x1, 51, rfl, by omega, by omega, (((hr6.out.setCell hrl2 _).setCell hrl _).setCell hrl _).more (by omega), ((K6.out.setCell (Nat.le_of_lt hAC) _).setCell (Nat.le_refl _) _).setCell (Nat.le_refl _) _⟩
    · have z1' : (x3 == 1) = false := by simpa using z1
      clear z1
      go_wp2_with fail
      exact bodyPost_ret (v := .agg #[.int .i64 x1, .int .i64 (1 + x2)]) (by simp [results, Try.results34, go_sem, a30, a31]) rfl ⟨x1, 1 + x2, rfl, by omega, by omega, ((hr3.out.setCell hrl _).setCell hrl _).more (by omega), (K3.out.setCell (Nat.le_refl _) _).setCell (Nat.le_refl _) _⟩
end Go.Proofs.Ytigaepbhbfpijaa

/- Draws of lists of ids: l91Ids. -/
namespace Go.Proofs.Ytigaepbhbfpijaa
open Go.RowKit
set_option linter.unusedVariables false

theorem Row.keep {w w' : World} {B r : Nat} {v : Value} {O : List Pid} (h : Row w B v O) (hk : Keep w.heap.size r w w') (hr : r < B) : Row w' B v O := ⟨row_keep h.1 hk hr, h.2⟩

theorem ids_next {w w1 w2 : World} {r m : Nat} {v v' : Value} {O : List Pid} {x y : Int} {o : Obj} (hrl : r < w.heap.size) (hR : Row w1 w.heap.size v O) (hown : w2.ownsRow w.heap.size 41 2 v' (O.length + 1) (flatP O ++ [.int .i64 x, .int .i64 y]))
    (hg : (w1.alloc o).grownBy w2 (Value.ownBlock v)) (hn : v' ≠ .slice none 0 0) (hrd : Rd w1 r m) (hk : Keep w.heap.size r w w1) : Row w2 w.heap.size v' (O ++ [(x, y)]) ∧ Rd w2 r m ∧ Keep w.heap.size r w w2 := by
  have hR1 : Row (w1.alloc o) w.heap.size v O := hR.up ((Below.refl _ _).alloc (Nat.le_refl _) _)
  have B2 := grown_below hR1 hg (by have := hk.size; simp; omega)
  exact ⟨hR.put hown hn, (hrd.alloc o).kept (B2.mono (by omega)), (hk.alloc hk.size o).trans (Keep.of_below B2)⟩

/-- What l91Ids leaves. -/
def IdsPost (r : Nat) (w : World) (e : Ending) (w' : World) : Prop :=
  ∃ u C, e = .returned u ∧ Ids w' u C ∧ C.length ≤ 13 ∧ Keep w.heap.size r w w'

/-- .. with the reader's place. -/
def IdsPostN (r n : Nat) (w : World) (e : Ending) (w' : World) : Prop :=
  ∃ u C, e = .returned u ∧ Ids w' u C ∧ C.length ≤ 13 ∧ Rd w' r (n + 40) ∧ Keep w.heap.size r w w'

theorem row_ids {w : World} {B g cap : Nat} {O : List Pid} {z : Nat} (h : Row w B (.slice (some ⟨g, 0, none⟩) O.length cap) O) (hz : z ≤ O.length) (hc : O.length ≤ cap) (hl : O.length ≤ 2000000) : Ids w (.slice (some ⟨g, z * 2, none⟩) (O.length - z) (cap - z)) (O.drop z) := by
  obtain ⟨cur, hcur, _, _, _, _, hcs⟩ := h.parts
  refine ⟨_, _, by rw [List.length_drop], by rw [List.length_drop]; omega, by rw [List.length_drop]; omega, .inr ⟨g, z * 2, rfl, lt_of_heap hcur, fun i hi => ?_⟩⟩
  rw [List.length_drop] at hi
  have := flatP_get O (z + i) (by omega)
  have e : (O.drop z).getD i nop = O.getD (z + i) nop := by
    rw [List.getD_eq_getElem?_getD, List.getElem?_drop, ← List.getD_eq_getElem?_getD]
  rw [show z * 2 + i * 2 = (z + i) * 2 by omega, hcs _ (by omega), hcs _ (by omega), e]
  exact this

set_option maxRecDepth 100000 in
set_option maxHeartbeats 4000000 in
theorem ids_anyN (r n : Nat) (w : World) (hrd : Rd w r n) (hn : n ≤ 800000000) :
    Calls Try.prog 25 #[.pointer (some ⟨r, 0, none⟩)] w (IdsPostN r n w) := by
  have hrl := hrd.lt
  obtain ⟨i0, hi, hz0, hz1, hz2⟩ := info_parts infoP
  have R0 := Lib.hid (row_new w w.heap.size (Nat.le_refl _))
  have hrd := Lib.hid hrd
  go_enter Try.func25, Try.ntmps25
  go_wp2_with fail
  refine (pick_any 8 r n _ (hrd.out.alloc _) (by omega)).mono ?_
  rintro e w1 ⟨m, rfl, m0, m1', hr1, hk1⟩
  have m1 := m1' (by omega)
  have s1 : w.heap.size + 1 ≤ w1.heap.size := by simpa using hk1.size
  have K1 := Lib.hid (((Keep.refl w.heap.size r w).alloc (Nat.le_refl _) (.cells #[] 41)).trans (hk1.mono (by simp)))
  have R1 := Lib.hid (R0.out.keep hk1 hrl)
  have hr1 := Lib.hid hr1
  clear hk1 R0 m1' hrd
  go_wp2_with fail
  refine (pick_any 20 r (n + 1) _ hr1.out (by omega)).mono ?_
  rintro e w2 ⟨q, rfl, q0, q1', hr2, hk2⟩
  have s2 := hk2.size
  have K2 := Lib.hid (K1.out.trans (hk2.mono (by omega)))
  have R2 := Lib.hid (R1.out.keep hk2 hrl)
  have hr2 := Lib.hid hr2
  clear hk2 R1 K1 hr1 q1'
  obtain ⟨m, rfl⟩ := Int.eq_ofNat_of_zero_le m0
  by_cases e0 : q = 0
  · subst e0
    go_wp2_with fail
    go_loopw [3, 5] (fun v i wr => ∃ k : Nat, k ≤ 13 ∧ i = .int .i64 k ∧ ∃ O : List Pid, O.length = k ∧ Hid (Row wr w.heap.size v O) ∧ Hid (Rd wr r (n + 2)) ∧ Hid (Keep w.heap.size r w wr)) (fun _ i _ => 13 - (intOf i).toNat)
    case atStart => exact ⟨0, Nat.zero_le _, rfl, [], rfl, R2, hr2, K2⟩
    case round =>
      obtain ⟨k, hk, rfl, O, hL, hR, hr, hK⟩ := hrel
      have hsz := hK.out.size
      clear R2 hr2 K2
      by_cases hlt : k < 13
      · have e5 : (k : Int).tmod 5 = (k : Int) % 5 := Int.tmod_eq_emod_of_nonneg (by omega)
        have e5a : 0 ≤ (k : Int) % 5 := Int.emod_nonneg _ (by omega)
        go_wp2_with (at_builtin; refine wpList_append_own _ rfl _ _ 23 rfl w.heap.size 41 i0 (.agg #[.int .i64 0, .int .i64 0]) 2 16 Try.underlying23 hi hz0 hz1 hz2 rfl (by decide) _ _ _ rfl (hR.out.1.alloc _) ⟨wr.heap.size, 0, none⟩ 1 1 [.int .i64 ((k : Int) % 5), .int .i64 (1 + (k : Int))] rfl rfl ?c1 ?c2 ?c3 ?c4 ?c5 ?_)
        case c1 => exact two_cells _ _ _ _ _ (by simp)
        case c2 => intro u hu; simp at hu; rcases hu with rfl | rfl <;> rfl
        case c3 => unfold maxLen; omega
        case c4 => omega
        case c5 => simp; omega
        intro v' w4 hown' hgrow hnil
        have X := ids_next hrl hR.out (by rw [hL]; exact hown') hgrow (fun e => hnil e) hr.out hK.out
        have hR' := Lib.hid X.1
        have hr' := Lib.hid X.2.1
        have hK' := Lib.hid X.2.2
        clear X hown' hgrow hnil hR hr hK
        go_wp2_with fail
        go_roundw
        case rel => exact ⟨k + 1, by omega, by go_num, _, by simp [hL], hR', hr', hK'⟩
        case measure => simp [intOf]; omega
      · obtain rfl : k = 13 := by omega
        obtain ⟨g, cap, rfl, hBg, hgs, hlc, hcm⟩ := hR.out.shape
        unfold maxLen at hcm
        rw [hL] at hlc hR ⊢
        go_wp2_with fail
        refine (pick_any 2 r (n + 2) _ hr.out (by omega)).mono ?_
        rintro e w3 ⟨z, rfl, z0, z1', hr3, hk3⟩
        have z1 := z1' (by omega)
        have K3 := Lib.hid (hK.out.trans (hk3.mono hsz))
        have R3 := hR.out.keep hk3 hrl
        have hI : ∀ z : Nat, z ≤ 13 → Ids w3 (.slice (some ⟨g, z * 2, none⟩) (13 - z) (cap - z)) (O.drop z) := fun z hz => by
          have := row_ids (z := z) (by rw [hL]; exact R3) (by omega) (by omega) (by omega)
          rw [hL] at this; exact this
        have hI := Lib.hid hI
        have b1 : ¬ cap = 0 := by omega
        have b2 : ¬ cap = 1 := by omega
        have hr3 := Lib.hid (hr3.more (show n + 2 + 1 ≤ n + 40 by omega))
        clear hk3 hR hK hr z1' R3
        rcases (show z = 0 ∨ z = 1 by omega) with rfl | rfl
        · go_wp2_with fail
          go_ret
          exact ⟨_, O.drop 0, rfl, by simpa using hI.out 0 (by omega), by rw [List.length_drop]; omega, hr3.out, K3.out⟩
        · go_wp2_with fail
          go_ret
          exact ⟨_, O.drop 1, rfl, by simpa using hI.out 1 (by omega), by rw [List.length_drop]; omega, hr3.out, K3.out⟩
  · have e0' : (q == 0) = false := by simpa using e0
    clear e0
    go_wp2_with fail
    go_loopw [3, 6] (fun v i wr => ∃ k : Nat, k ≤ m ∧ i = .int .i64 k ∧ ∃ O : List Pid, O.length = k ∧ Hid (Row wr w.heap.size v O) ∧ Hid (Rd wr r (n + 2 + 4 * k)) ∧ Hid (Keep w.heap.size r w wr)) (fun _ i _ => m - (intOf i).toNat)
    case atStart => exact ⟨0, Nat.zero_le _, rfl, [], rfl, R2, hr2, K2⟩
    case round =>
      obtain ⟨k, hk, rfl, O, hL, hR, hr, hK⟩ := hrel
      have hsz := hK.out.size
      clear R2 hr2 K2
      by_cases hlt : k < m
      · go_wp2_with fail
        refine (idd_any r (n + 2 + 4 * k) _ hr.out (by omega)).mono ?_
        rintro e w3 ⟨x, y, rfl, _, _, hr3, hk3⟩
        have s3 := hk3.size
        have K3 := Lib.hid (hK.out.trans (hk3.mono hsz))
        have R3 := Lib.hid (hR.out.keep hk3 hrl)
        have hr3 := Lib.hid hr3
        clear hk3 hR hK hr
        go_wp2_with (at_builtin; refine wpList_append_own _ rfl _ _ 23 rfl w.heap.size 41 i0 (.agg #[.int .i64 0, .int .i64 0]) 2 16 Try.underlying23 hi hz0 hz1 hz2 rfl (by decide) _ _ _ rfl (R3.out.1.alloc _) ⟨w3.heap.size, 0, none⟩ 1 1 [.int .i64 x, .int .i64 y] rfl rfl ?c1 ?c2 ?c3 ?c4 ?c5 ?_)
        case c1 => exact two_cells _ _ _ _ _ (by simp)
        case c2 => intro u hu; simp at hu; rcases hu with rfl | rfl <;> rfl
        case c3 => unfold maxLen; omega
        case c4 => omega
        case c5 => simp; omega
        intro v' w4 hown' hgrow hnil
        have X := ids_next hrl R3.out (by rw [hL]; exact hown') hgrow (fun e => hnil e) hr3.out K3.out
        have hR' := Lib.hid X.1
        have hr' := Lib.hid X.2.1
        have hK' := Lib.hid X.2.2
        clear X hown' hgrow hnil R3 hr3 K3
        go_wp2_with fail
        go_roundw
        case rel => exact ⟨k + 1, by omega, by go_num, _, by simp [hL], hR', hr', hK'⟩
        case measure => simp [intOf]; omega
      · obtain rfl : k = m := by omega
        obtain ⟨o, ho, hown⟩ := hR.out.own (by omega)
        have hI := Lib.hid hown.read
        have hr3 := Lib.hid (hr.out.more (show n + 2 + 4 * k ≤ n + 40 by omega))
        clear hR hown
        go_wp2_with fail
        go_ret
        exact ⟨_, _, rfl, hI.out, by omega, hr3.out, hK.out⟩

theorem ids_any (r n : Nat) (w : World) (hrd : Rd w r n) (hn : n ≤ 800000000) :
    Calls Try.prog 25 #[.pointer (some ⟨r, 0, none⟩)] w (IdsPost r w) :=
  (ids_anyN r n w hrd hn).mono fun e w' ⟨u, C, h1, h2, h3, _, h4⟩ => ⟨u, C, h1, h2, h3, h4⟩
end Go.Proofs.Ytigaepbhbfpijaa

/- The model's IdsSort. -/
namespace Go.Proofs.Ytigaepbhbfpijaa
open Go.RowKit
set_option linter.unusedVariables false

theorem all_ok {L : List Pid} (h : ∀ j, j < L.length → okP (L.getD j nop) = true) : L.all okP = true := by
  rw [List.all_eq_true]
  intro x hx
  obtain ⟨i, hi, e⟩ := List.getElem_of_mem hx
  have := h i hi
  rw [List.getD_eq_getElem?_getD, List.getElem?_eq_getElem hi, Option.getD_some, e] at this
  exact this
theorem ownP_nil (w : World) (t : TypeId) : OwnP (w.alloc (.cells #[] t)) w.heap.size (.slice (some ⟨w.heap.size, 0, none⟩) 0 0) [] :=
  ⟨0, #[], t, rfl, heap_alloc_new w _, Nat.le_refl _, by simp, fun i hi => absurd hi (by simp)⟩
theorem OwnP.at0 {w : World} {b : Nat} {u : Value} {C : List Pid} (h : OwnP w b u C) : ∀ i, i < C.length → w.cell? ⟨b, 0 + i * 2, none⟩ = some (.int .i64 (C.getD i nop).1) ∧ w.cell? ⟨b, 0 + i * 2 + 1, none⟩ = some (.int .i64 (C.getD i nop).2) := fun i hi => by
  rw [Nat.zero_add]; exact h.cell i hi
theorem sortP_take_len (L : List Pid) (k : Nat) : (sortP (L.take k)).length ≤ k := Nat.le_trans (sortP_len _) (by rw [List.length_take]; omega)

/-- What IdsSort leaves. -/
def SortPost (L : List Pid) (w : World) (e : Ending) (w' : World) : Prop :=
  ∃ b u, w.heap.size ≤ b ∧ e = .returned (.tuple #[u, .bool (sortR L).2]) ∧ OwnP w' b u (sortR L).1 ∧ Below w.heap.size w w'

set_option maxRecDepth 100000 in
set_option maxHeartbeats 2000000 in
theorem ssort_at (b off ca : Nat) (L : List Pid) (w : World) (hb : b < w.heap.size) (hm : L.length ≤ 1800000) (h : ∀ i, i < L.length → w.cell? ⟨b, off + i * 2, none⟩ = some (.int .i64 (L.getD i nop).1) ∧ w.cell? ⟨b, off + i * 2 + 1, none⟩ = some (.int .i64 (L.getD i nop).2)) :
    Calls Try.prog 28 #[.slice (some ⟨b, off, none⟩) L.length ca] w (SortPost L w) := by
  have h := Lib.hid h
  obtain ⟨n, hn⟩ : ∃ n, Hid (L.length = n) := ⟨_, Lib.hid rfl⟩
  rw [hn.out] at hm ⊢
  have R0 := Lib.hid (ownP_nil w 41)
  go_enter Try.func28, Try.ntmps28
  go_wp2_with fail
  go_loopw [4, 5] (fun v i wr => ∃ k : Nat, k ≤ n ∧ i = .int .i64 k ∧ ∃ g, w.heap.size ≤ g ∧ Hid (OwnP wr g v (sortP (L.take k)) ∧ (∀ j, j < k → okP (L.getD j nop) = true)) ∧ Below w.heap.size w wr) (fun _ i _ => n - (intOf i).toNat)
  case atStart => exact ⟨0, Nat.zero_le _, rfl, w.heap.size, Nat.le_refl _, Lib.hid ⟨R0.out, fun j hj => absurd hj (Nat.not_lt_zero _)⟩, (Below.refl _ _).alloc (Nat.le_refl _) _⟩
  case round =>
    obtain ⟨k, hk, rfl, g, hg, hO, hnx⟩ := hrel
    clear R0
    obtain ⟨cap, hv, hcap⟩ := hO.out.1.shape
    have hsl := sortP_take_len L k
    by_cases hlt : k < n
    · obtain ⟨h0, h1⟩ := h.out k (by rw [hn.out]; exact hlt)
      have q0 := (hnx.cell (p := ⟨b, off + k * 2, none⟩) hb).trans h0
      have q1 := (hnx.cell (p := ⟨b, off + k * 2 + 1, none⟩) hb).trans h1
      clear h0 h1
      obtain ⟨c, hc⟩ : ∃ c, Hid (L.getD k nop = c) := ⟨_, Lib.hid rfl⟩
      rw [hc.out] at q0 q1
      obtain ⟨p, r⟩ := c
      dsimp only at q0 q1
      have hnx := Lib.hid hnx
      have sv := svid_any p r
      obtain ⟨q, hq⟩ : ∃ q, Hid (idB p r = q) := ⟨_, Lib.hid rfl⟩
      rw [hq.out] at sv
      cases q
      · have hR := Lib.hid (sortR_bad (by rw [hn.out]; exact hlt) (show okP (L.getD k nop) = false by rw [hc.out]; exact hq.out))
        clear h
        go_wp2_with fail
        refine (sv _).mono ?_
        rintro e w1 ⟨rfl, B⟩
        have D1 := Lib.hid (bstep hnx.out B)
        have N1 := Lib.hid (ownP_nil w1 41)
        clear B hnx hO
        go_wp2_with fail
        go_ret2
        refine ⟨w1.heap.size, .slice (some ⟨w1.heap.size, 0, none⟩) 0 0, D1.out.size, ?_, ?_, D1.out.alloc D1.out.size _⟩
        · rw [hR.out]; rfl
        · rw [hR.out]; exact N1.out
      · have hnext := Lib.hid (sortP_next (L := L) (k := k) (by rw [hn.out]; exact hlt))
        have hok := Lib.hid (up_to hO.out.2 (show okP (L.getD k nop) = true by rw [hc.out]; exact hq.out))
        rw [hc.out] at hnext
        have hO := hO.out.1
        clear hq hc
        generalize sortP (L.take k) = S at hO hsl hnext hv hcap
        subst hv
        have hO := Lib.hid hO
        clear h
        go_wp2_with fail
        refine (sv _).mono ?_
        rintro e w1 ⟨rfl, B⟩
        have D1 := Lib.hid (bstep hnx.out B)
        have O1 := hO.out.up B hO.out.lt
        have q0 := cell_later B q0
        have q1 := cell_later B q1
        have hl1 := O1.lt
        have O1 := Lib.hid O1
        clear B hnx hO
        go_wp2_with fail
        refine (sput_at g 0 cap S p r _ hl1 (by omega) O1.out.at0).mono ?_
        rintro e w2 ⟨b', u, hb', rfl, hO2, B⟩
        have D2 := Lib.hid (bstep D1.out B)
        have D1s := D1.out.size
        have hO2 := Lib.hid hO2
        clear B D1 O1
        go_wp2_with fail
        go_roundw
        case rel => exact ⟨k + 1, by omega, by go_num, b', by omega, Lib.hid ⟨by rw [hnext.out]; exact hO2.out, hok.out⟩, D2.out⟩
        case measure => simp [intOf]; omega
    · obtain rfl : k = n := by omega
      have ht : L.take k = L := List.take_of_length_le (by rw [hn.out]; exact Nat.le_refl _)
      have hall := all_ok (fun j hj => hO.out.2 j (by rw [← hn.out]; exact hj))
      have hO := hO.out.1
      rw [ht] at hO hsl hv hcap
      have hnx := Lib.hid hnx
      clear h ht
      by_cases hle : (sortP L).length ≤ 12
      · have hR := Lib.hid (sortR_t hall hle)
        generalize sortP L = S at hO hsl hle hv hcap hR
        subst hv
        have hO := Lib.hid hO
        clear hall
        go_wp2_with fail
        go_ret2
        refine ⟨g, .slice (some ⟨g, 0, none⟩) S.length cap, hg, ?_, ?_, hnx.out⟩
        · rw [hR.out]; rfl
        · rw [hR.out]; exact hO.out
      · have hR := Lib.hid (sortR_long hle)
        generalize sortP L = S at hO hsl hle hv hcap
        subst hv
        have N1 := Lib.hid (ownP_nil wr 41)
        clear hall hO
        go_wp2_with fail
        go_ret2
        refine ⟨wr.heap.size, .slice (some ⟨wr.heap.size, 0, none⟩) 0 0, hnx.out.size, ?_, ?_, hnx.out.alloc hnx.out.size _⟩
        · rw [hR.out]; rfl
        · rw [hR.out]; exact N1.out

theorem ssort_nil (a : Option Addr) (ca : Nat) (w : World) :
    Calls Try.prog 28 #[.slice a 0 ca] w (SortPost [] w) := by
  have R0 := Lib.hid (ownP_nil w 41)
  go_enter Try.func28, Try.ntmps28
  go_wp2_with fail
  refine wp_loop_rounds 1 ?_
  rw [rounds_succ]
  go_wp2_with fail
  go_ret2
  exact ⟨w.heap.size, _, Nat.le_refl _, rfl, R0.out, (Below.refl _ _).alloc (Nat.le_refl _) _⟩

theorem ssort_any (u : Value) (L : List Pid) (w : World) (h : Ids w u L) (hm : L.length ≤ 1800000) :
    Calls Try.prog 28 #[u] w (SortPost L w) := by
  obtain ⟨a, cap, rfl, h1, h2, h3⟩ := h
  rcases h3 with h3 | ⟨b, off, rfl, h4, h5⟩
  · obtain rfl : L = [] := List.length_eq_zero_iff.1 h3
    exact ssort_nil a cap w
  · exact ssort_at b off cap L w h4 hm h5
end Go.Proofs.Ytigaepbhbfpijaa

/- Draws of sorted ids: l91Deps. -/
namespace Go.Proofs.Ytigaepbhbfpijaa
open Go.RowKit
set_option linter.unusedVariables false

theorem OwnP.stay {w w' : World} {b r : Nat} {v : Value} {C : List Pid} (h : OwnP w b v C) (hk : Keep w.heap.size r w w') (hr : b ≠ r) : OwnP w' b v C := h.same (hk.block b h.lt hr)

/-- What l91Deps leaves. -/
def DepPost (r n : Nat) (w : World) (e : Ending) (w' : World) : Prop :=
  ∃ b u C, w.heap.size ≤ b ∧ e = .returned u ∧ OwnP w' b u C ∧ C.length ≤ 13 ∧ Rd w' r (n + 40) ∧ Keep w.heap.size r w w'

set_option maxRecDepth 100000 in
set_option maxHeartbeats 2000000 in
theorem ddep_any (r n : Nat) (w : World) (hrd : Rd w r n) (hn : n ≤ 800000000) :
    Calls Try.prog 18 #[.pointer (some ⟨r, 0, none⟩)] w (DepPost r n w) := by
  have hrl := hrd.lt
  have hrd := Lib.hid hrd
  go_enter Try.func18, Try.ntmps18
  go_wp2_with fail
  refine (ids_anyN r n _ hrd.out hn).mono ?_
  rintro e w1 ⟨u, C, rfl, hI, hl, hr1, hk1⟩
  have s1 := hk1.size
  have hI := Lib.hid hI
  have hr1 := Lib.hid hr1
  have K1 := Lib.hid hk1
  clear hk1 hrd
  go_wp2_with fail
  refine (ssort_any u C _ hI.out (by omega)).mono ?_
  rintro e w2 ⟨b, v, hb, rfl, hO, hb2⟩
  have s2 := hb2.size
  have hr2 := Lib.hid (hr1.out.kept (hb2.mono (Nat.succ_le_of_lt hr1.out.lt)))
  have K2 := Lib.hid (K1.out.trans (Keep.of_below (hb2.mono s1)))
  have hL := sortR_len C
  have hO := Lib.hid hO
  clear hb2 K1 hr1 hI
  generalize sortR C = R at hO hL ⊢
  obtain ⟨S, f⟩ := R
  dsimp only at hO hL ⊢
  cases f
  · have A3 := heap_alloc_new w2 (.cells #[.int .i64 1, .int .i64 1, .int .i64 0, .int .i64 1] 41)
    have A3 := Lib.hid A3
    have hr3 := Lib.hid (hr2.out.alloc (.cells #[.int .i64 1, .int .i64 1, .int .i64 0, .int .i64 1] 41))
    have K3 := Lib.hid (K2.out.alloc (by omega) (.cells #[.int .i64 1, .int .i64 1, .int .i64 0, .int .i64 1] 41))
    have hI3 : Hid (OwnP (w2.alloc (.cells #[.int .i64 1, .int .i64 1, .int .i64 0, .int .i64 1] 41)) w2.heap.size (.slice (some ⟨w2.heap.size, 0, none⟩) 2 2) [(1, 1), (0, 1)]) := Lib.hid ⟨2, _, _, rfl, A3.out, by simp, by simp, fun i hi => by
      have hi' : i < 2 := by simpa using hi
      rcases (show i = 0 ∨ i = 1 by omega) with rfl | rfl <;> exact ⟨rfl, rfl⟩⟩
    go_wp2_with fail
    go_ret
    exact ⟨w2.heap.size, _, _, by omega, rfl, hI3.out, by simp, hr3.out, K3.out⟩
  · go_wp2_with fail
    go_ret
    exact ⟨b, _, _, by omega, rfl, hO.out, by omega, hr2.out, K2.out⟩
end Go.Proofs.Ytigaepbhbfpijaa

/- DrawDepsValid. -/
namespace Go.Proofs.Ytigaepbhbfpijaa
open Go.RowKit
set_option linter.unusedVariables false

/-- What a draw of a list leaves. -/
def D1Post (w : World) (e : Ending) (w' : World) : Prop := ∃ u C, e = .returned u ∧ Ids w' u C ∧ C.length ≤ 13 ∧ Below w.heap.size w w'

set_option maxRecDepth 100000 in
set_option maxHeartbeats 2000000 in
theorem ddv_any (a : Option Addr) (len cap : Nat) (w : World) (hc : CodeIn w a len cap) (hcap : cap ≤ maxLen) :
    Calls Try.prog 12 #[.slice a len cap] w (D1Post w) := by
  have hc := Lib.hid hc
  have hcap := Lib.hid hcap
  go_enter Try.func12, Try.ntmps12
  go_wp2_with fail
  refine (open_any a len cap _ hc.out hcap.out).mono ?_
  rintro e w1 ⟨r, rfl, hr0, hr', hb'⟩
  have s1 := hb'.size
  have D1 : Hid (Below w.heap.size w w1) := Lib.hid hb'
  have hr1 := Lib.hid hr'
  clear hr' hb' hc hcap
  go_wp2_with fail
  refine (pick_any 3 r 0 _ hr1.out (by omega)).mono ?_
  rintro e w2 ⟨x, rfl, x0, x1, hr2, hk2⟩
  have s2 := hk2.size
  have D2 : Hid (Below w.heap.size w w2) := Lib.hid (D1.out.trans ((hk2.mono s1).below hr0))
  have hr2 := Lib.hid hr2
  clear hk2 D1 hr1 x1
  by_cases e0 : x = 0
  · subst e0
    go_wp2_with fail
    refine (ids_anyN r (0 + 1) _ hr2.out (by omega)).mono ?_
    rintro e w3 ⟨u, C, rfl, hI, hCl, hr3, hk3⟩
    have D3 : Hid (Below w.heap.size w w3) := Lib.hid (D2.out.trans ((hk3.mono D2.out.size).below hr0))
    have hI := Lib.hid hI
    clear hk3 D2 hr2 hr3
    go_wp2_with fail
    go_ret
    exact ⟨u, C, rfl, hI.out, hCl, D3.out⟩
  · have e0' : (x == 0) = false := by simpa using e0
    clear e0
    go_wp2_with fail
    refine (ddep_any r (0 + 1) _ hr2.out (by omega)).mono ?_
    rintro e w3 ⟨b, u, C, hb, rfl, hO, hCl, hr3, hk3⟩
    have D3 : Hid (Below w.heap.size w w3) := Lib.hid (D2.out.trans ((hk3.mono D2.out.size).below hr0))
    have hI := Lib.hid hO.read
    clear hk3 D2 hr2 hr3 hO
    go_wp2_with fail
    go_ret
    exact ⟨u, C, rfl, hI.out, hCl, D3.out⟩
end Go.Proofs.Ytigaepbhbfpijaa

/- The walk of FnDepsPart. -/
namespace Go.Proofs.Ytigaepbhbfpijaa
open Go.RowKit
set_option linter.unusedVariables false

theorem part_less {C : List Pid} {k : Nat} (h : srtB C = true) (hk : k < C.length) : srtB (C.take k ++ C.drop (k + 1)) = true := by
  obtain ⟨h1, h2, h3⟩ := srt_of h
  have hs : List.Sublist (C.take k ++ C.drop (k + 1)) C := by rw [← List.eraseIdx_eq_take_drop_succ]; exact List.eraseIdx_sublist _ _
  refine srt_to (Nat.le_trans hs.length_le h1) (List.all_eq_true.2 fun x hx => List.all_eq_true.1 h2 x (hs.subset hx)) (List.Pairwise.sublist hs h3)
theorem part_twice {C : List Pid} {k : Nat} (hk : k < C.length) : srtB (C.take (k + 1) ++ C.drop k) = false := by
  have hl : (C.take (k + 1)).length = k + 1 := by rw [List.length_take]; omega
  refine srt_turn (k := k) (by rw [List.length_append, hl, List.length_drop]; omega) ?_
  have e1 : (C.take (k + 1) ++ C.drop k).getD k nop = C.getD k nop := by
    rw [List.getD_eq_getElem?_getD, List.getElem?_append_left (by omega), List.getElem?_take, if_pos (by omega), ← List.getD_eq_getElem?_getD]
  have e2 : (C.take (k + 1) ++ C.drop k).getD (k + 1) nop = C.getD k nop := by
    rw [List.getD_eq_getElem?_getD, List.getElem?_append_right (by omega), hl, Nat.sub_self, List.getElem?_drop, Nat.add_zero, ← List.getD_eq_getElem?_getD]
  rw [e1, e2]; exact ltP_irr _

theorem flat_src {W : World} {b off : Nat} {C S : List Pid} (h : ∀ i, i < C.length → W.cell? ⟨b, off + i * 2, none⟩ = some (.int .i64 (C.getD i nop).1) ∧ W.cell? ⟨b, off + i * 2 + 1, none⟩ = some (.int .i64 (C.getD i nop).2)) (z : Nat)
    (hS : ∀ i, i < S.length → z + i < C.length ∧ S.getD i nop = C.getD (z + i) nop) : ∀ j u, (flatP S)[j]? = some u → W.cell? ((⟨b, off + z * 2, none⟩ : Addr).add j) = some u := by
  intro j u hj
  have hl : j < (flatP S).length := by
    rcases Nat.lt_or_ge j (flatP S).length with h' | h'
    · exact h'
    · rw [List.getElem?_eq_none h'] at hj; cases hj
  rw [flatP_len] at hl
  have hi : j / 2 < S.length := by omega
  obtain ⟨h1, h2⟩ := hS _ hi
  obtain ⟨f0, f1⟩ := flatP_get S _ hi
  obtain ⟨c0, c1⟩ := h _ h1
  rw [h2] at f0 f1
  have ha : (⟨b, off + z * 2, none⟩ : Addr).add j = ⟨b, off + z * 2 + j, none⟩ := by simp [Addr.add]
  rw [ha]
  rcases (show j % 2 = 0 ∨ j % 2 = 1 by omega) with e | e
  · have e1 : off + z * 2 + j = off + (z + j / 2) * 2 := by omega
    have e2 : j / 2 * 2 = j := by omega
    rw [e2, hj] at f0
    rw [e1, f0, c0]
  · have e1 : off + z * 2 + j = off + (z + j / 2) * 2 + 1 := by omega
    have e2 : j / 2 * 2 + 1 = j := by omega
    rw [e2, hj] at f1
    rw [e1, f1, c1]
theorem Row.putS {w w' : World} {B : Nat} {v v' : Value} {O S : List Pid} (h : Row w B v O) (hown : w'.ownsRow B 41 2 v' (O.length + S.length) (flatP O ++ flatP S)) (hn : v' ≠ .slice none 0 0) : Row w' B v' (O ++ S) :=
  ⟨by rw [flatP_app, List.length_append]; exact hown, hn⟩
theorem seg_take {C : List Pid} {k : Nat} (hk : k ≤ C.length) : ∀ i, i < (C.take k).length → 0 + i < C.length ∧ (C.take k).getD i nop = C.getD (0 + i) nop := by
  intro i hi
  rw [List.length_take] at hi
  refine ⟨by omega, ?_⟩
  rw [List.getD_eq_getElem?_getD, List.getElem?_take, if_pos (by omega), ← List.getD_eq_getElem?_getD, Nat.zero_add]
theorem seg_drop {C : List Pid} {z : Nat} : ∀ i, i < (C.drop z).length → z + i < C.length ∧ (C.drop z).getD i nop = C.getD (z + i) nop := by
  intro i hi
  rw [List.length_drop] at hi
  refine ⟨by omega, ?_⟩
  rw [List.getD_eq_getElem?_getD, List.getElem?_drop, ← List.getD_eq_getElem?_getD]
/-- A step of the law's appends. -/
theorem part_step {w3 W w4 : World} {v v' : Value} {O S : List Pid} (hR : Row W w3.heap.size v O) (D : Below w3.heap.size w3 W) (hown : w4.ownsRow w3.heap.size 41 2 v' (O.length + S.length) (flatP O ++ flatP S)) (hg : W.grownBy w4 (Value.ownBlock v)) (hn : v' ≠ .slice none 0 0) :
    Row w4 w3.heap.size v' (O ++ S) ∧ Below w3.heap.size w3 w4 := ⟨hR.putS hown hn, D.trans (grown_below hR hg D.size)⟩

set_option maxRecDepth 100000 in
set_option maxHeartbeats 4000000 in
theorem fnDepsPart_walk (a : Option Addr) (len cap : Nat) (a2 : Option Addr) (len2 cap2 : Nat) (w : World) (hc : CodeIn w a len cap) (hcap : cap ≤ maxLen) (hc2 : CodeIn w a2 len2 cap2) (hcap2 : cap2 ≤ maxLen) :
    Calls Try.prog 4 #[.slice a len cap, .slice a2 len2 cap2] w fun e w' => e = .returned (.bool true) ∧ Below w.heap.size w w' := by
  have hm : cap ≤ 9223372036854775807 := by simpa [maxLen] using hcap
  have hlc := hc.1
  have hm2 : cap2 ≤ 9223372036854775807 := by simpa [maxLen] using hcap2
  have hlc2 := hc2.1
  by_cases hl : 1048576 < len
  · clear hcap hc hc2 hcap2
    go_enter Try.func4, Try.ntmps4
    go_wp2_with fail
    go_ret
    exact ⟨rfl, Below.refl _ _⟩
  · by_cases hl2 : 1048576 < len2
    · clear hcap hc hc2 hcap2
      go_enter Try.func4, Try.ntmps4
      go_wp2_with fail
      go_ret
      exact ⟨rfl, Below.refl _ _⟩
    · have hc1 := Lib.hid hc
      have hcap1 := Lib.hid hcap
      obtain ⟨i0, hi, hz0, hz1, hz2⟩ := info_parts infoP
      clear hc hcap hc2 hcap2
      go_enter Try.func4, Try.ntmps4
      go_wp2_with fail
      refine (ddv_any a len cap w hc1.out hcap1.out).mono ?_
      rintro e w1 ⟨u, C, rfl, hI, hCl, D1'⟩
      have D1 := Lib.hid D1'
      obtain ⟨n, hn⟩ : ∃ n, Hid (C.length = n) := ⟨_, Lib.hid rfl⟩
      rw [hn.out] at hCl
      obtain ⟨ad, cp, hu, hcp, _, hrd⟩ := hI
      have hI := Lib.hid (show Ids w1 u C from ⟨ad, cp, hu, hcp, by omega, hrd⟩)
      rw [hn.out] at hu hcp
      subst hu
      have hrd := Lib.hid hrd
      clear hc1 hcap1 D1'
      have sv := fun u C w h => sval_any u C w h
      obtain ⟨q, hq⟩ : ∃ q, Hid (srtB C = q) := ⟨_, Lib.hid rfl⟩
      go_wp2_with fail
      refine (ival_any _ C _ hI.out).mono ?_
      rintro e w2 ⟨rfl, hb⟩
      have D2 := Lib.hid (bstep D1.out hb)
      have hI2 := Lib.hid (hI.out.up hb (Nat.le_refl _))
      clear hb hI D1
      go_wp2_with fail
      refine (sval_any _ C _ hI2.out).mono ?_
      rintro e w3 ⟨rfl, hb⟩
      have D3 := Lib.hid (bstep D2.out hb)
      have hI3 := Lib.hid (hI2.out.up hb (Nat.le_refl _))
      clear hb hI2 D2
      rw [hq.out]
      cases q
      · clear hI3
        go_wp2_with fail
        go_ret
        exact ⟨rfl, D3.out⟩
      · by_cases hn0 : n = 0
        · subst hn0
          clear hI3
          go_wp2_with fail
          go_ret
          exact ⟨rfl, D3.out⟩
        · have hn0' : ((n : Int) == 0) = false := by simpa using hn0
          obtain ⟨k, hk⟩ : ∃ k : Nat, k = len2 % n := ⟨_, rfl⟩
          have hkn : k < n := by rw [hk]; exact Nat.mod_lt _ (by omega)
          have hmod : (len2 : Int).tmod (n : Int) = (k : Int) := by rw [hk, Int.tmod_eq_emod_of_nonneg (by omega)]; exact (Int.natCast_emod _ _).symm
          obtain ⟨b, off, had, hb1, hb2⟩ : ∃ b off, ad = some ⟨b, off, none⟩ ∧ b < w3.heap.size ∧ ∀ i, i < C.length → w3.cell? ⟨b, off + i * 2, none⟩ = some (.int .i64 (C.getD i nop).1) ∧ w3.cell? ⟨b, off + i * 2 + 1, none⟩ = some (.int .i64 (C.getD i nop).2) := by
            obtain ⟨ad', cp', e, _, _, h3⟩ := hI3.out
            injection e with e1 e2 e3
            rcases h3 with h3 | ⟨b, off, h4, h5⟩
            · exact absurd (hn.out.symm.trans h3) hn0
            · exact ⟨b, off, e1.trans h4, h5⟩
          subst had
          have hb2 := Lib.hid hb2
          have hx := Lib.hid (part_less (k := k) hq.out (by rw [hn.out]; exact hkn))
          have hy := Lib.hid (part_twice (C := C) (k := k) (by rw [hn.out]; exact hkn))
          clear hk hrd hI3
          go_wp2_with fail
          have k0 : (0 : Int) ≤ (k : Int) := by omega
          have k1 : (k : Int) ≤ (n : Int) := by omega
          have k2 : (k : Int) ≤ (cp : Int) := by omega
          have k3 : (k : Int) + 1 ≤ (n : Int) := by omega
          have k4 : (0 : Int) ≤ (k : Int) + 1 := by omega
          have k5 : (k : Int) + 1 ≤ (cp : Int) := by omega
          have w1 : IntKind.i64.wrap ((k : Int) + 1) = (k : Int) + 1 := IntWalk.i64_in _ (by omega)
          have k6 : ((k : Int) + 1).toNat = k + 1 := by omega
          have R0 : Hid (Row ((w3.alloc (.cells #[] 41)).drew) w3.heap.size (.slice (some ⟨w3.heap.size, 0, none⟩) 0 0) []) := Lib.hid (row_new w3 w3.heap.size (Nat.le_refl _))
          have B0 : Hid (Below w3.heap.size w3 ((w3.alloc (.cells #[] 41)).drew)) := Lib.hid ((Below.refl _ _).alloc (Nat.le_refl _) _).drew
          have lt1 : (C.take k).length = k := by rw [List.length_take, hn.out]; omega
          have ld1 : (C.drop (k + 1)).length = n - (k + 1) := by rw [List.length_drop, hn.out]
          have ld0 : (C.drop k).length = n - k := by rw [List.length_drop, hn.out]
          have lt2 : (C.take (k + 1)).length = k + 1 := by rw [List.length_take, hn.out]; omega
          have hck : ¬ cp = k := by omega
          by_cases hcp : k + 1 = cp
          · have hd0 : C.drop (k + 1) = [] := List.drop_eq_nil_of_le (by rw [hn.out]; omega)
            go_region_law (first | (rw [if_pos (by rfl)]; refine wp_append_own _ _ _ 23 rfl w3.heap.size 41 i0 (.agg #[.int .i64 0, .int .i64 0]) 2 16 Try.underlying23 hi hz0 hz1 hz2 rfl (by decide) _ 0 [] rfl R0.out.1 ⟨b, off, none⟩ k cp (flatP (C.take k)) rfl (by rw [flatP_len, lt1]) (flat_src (off := off) (fun i hi' => by rw [Below.cell B0.out (p := ⟨b, off + i * 2, none⟩) hb1, Below.cell B0.out (p := ⟨b, off + i * 2 + 1, none⟩) hb1]; exact hb2.out i hi') 0 (seg_take (by rw [hn.out]; omega))) (flatP_one _) (by unfold maxLen; omega) (by omega) (by have := Below.size B0.out; omega) ?_; intro v4 w4 hown4 hgrow4 hnil4; have X4 := part_step R0.out B0.out (S := (C.take k)) (by rw [lt1]; exact hown4) hgrow4 (fun e => R0.out.2 (hnil4.1 e).1); have Y4 := Lib.hid X4.1; have B4 := Lib.hid X4.2; clear hown4 hgrow4 hnil4 X4 R0 B0) | (rw [if_pos (by rfl)]; refine wp_append_own _ _ _ 23 rfl w3.heap.size 41 i0 (.agg #[.int .i64 0, .int .i64 0]) 2 16 Try.underlying23 hi hz0 hz1 hz2 rfl (by decide) _ k (flatP (C.take k)) rfl (by have := Y4.out.1; simp only [List.nil_append, lt1] at this; exact this) ⟨b, off, none⟩ 0 0 (flatP ([] : List Pid)) rfl (by rw [flatP_len, List.length_nil]) (flat_src (off := off) (fun i hi' => by rw [Below.cell B4.out (p := ⟨b, off + i * 2, none⟩) hb1, Below.cell B4.out (p := ⟨b, off + i * 2 + 1, none⟩) hb1]; exact hb2.out i hi') 0 (fun i hi' => absurd hi' (Nat.not_lt_zero _))) (flatP_one _) (by unfold maxLen; omega) (by omega) (by have := Below.size B4.out; omega) ?_; intro v5 w5 hown5 hgrow5 hnil5; have X5 := part_step Y4.out B4.out (S := ([] : List Pid)) (by simp only [List.nil_append, lt1, List.length_nil]; exact hown5) hgrow5 (fun e => Y4.out.2 (hnil5.1 e).1); have Y5 := Lib.hid X5.1; have B5 := Lib.hid X5.2; clear hown5 hgrow5 hnil5 X5 Y4 B4))
            have Y5 : Hid (Row w5 w3.heap.size v5 (C.take k ++ C.drop (k + 1))) := Lib.hid (by rw [hd0]; exact Y5.out)
            replace hcp := Lib.hid hcp
            obtain ⟨W, hW⟩ : ∃ W, W = w5 := ⟨_, rfl⟩
            have D5 := Lib.hid (bstep D3.out B5.out)
            have hb2 : Hid (∀ i, i < C.length → W.cell? ⟨b, off + i * 2, none⟩ = some (.int .i64 (C.getD i nop).1) ∧ W.cell? ⟨b, off + i * 2 + 1, none⟩ = some (.int .i64 (C.getD i nop).2)) := Lib.hid (fun i hi' => by rw [hW, Below.cell B5.out (p := ⟨b, off + i * 2, none⟩) hb1, Below.cell B5.out (p := ⟨b, off + i * 2 + 1, none⟩) hb1]; exact hb2.out i hi')
            have hb1 : b < W.heap.size := by rw [hW]; exact Nat.lt_of_lt_of_le hb1 B5.out.size
            have s35 : w3.heap.size ≤ W.heap.size := by rw [hW]; exact B5.out.size
            rw [← hW] at D5 Y5 ⊢
            obtain ⟨vx, hvx⟩ : ∃ vx, vx = v5 := ⟨_, rfl⟩
            rw [← hvx] at Y5 ⊢
            have Yx := Lib.hid Y5.out
            clear hW hvx Y5 B5 D3
            have R0 : Hid (Row ((W.alloc (.cells #[] 41)).drew) W.heap.size (.slice (some ⟨W.heap.size, 0, none⟩) 0 0) []) := Lib.hid (row_new W W.heap.size (Nat.le_refl _))
            have B0 : Hid (Below W.heap.size W ((W.alloc (.cells #[] 41)).drew)) := Lib.hid ((Below.refl _ _).alloc (Nat.le_refl _) _).drew
            go_wp2_with fail
            go_region_law (first | (rw [if_pos (by rfl)]; refine wp_append_own _ _ _ 23 rfl W.heap.size 41 i0 (.agg #[.int .i64 0, .int .i64 0]) 2 16 Try.underlying23 hi hz0 hz1 hz2 rfl (by decide) _ 0 [] rfl R0.out.1 ⟨b, off, none⟩ (k + 1) cp (flatP (C.take (k + 1))) rfl (by rw [flatP_len, lt2]) (flat_src (off := off) (fun i hi' => by rw [Below.cell B0.out (p := ⟨b, off + i * 2, none⟩) hb1, Below.cell B0.out (p := ⟨b, off + i * 2 + 1, none⟩) hb1]; exact hb2.out i hi') 0 (seg_take (by rw [hn.out]; omega))) (flatP_one _) (by unfold maxLen; omega) (by omega) (by have := Below.size B0.out; omega) ?_; intro v4 w4 hown4 hgrow4 hnil4; have X4 := part_step R0.out B0.out (S := (C.take (k + 1))) (by rw [lt2]; exact hown4) hgrow4 (fun e => R0.out.2 (hnil4.1 e).1); have Y4 := Lib.hid X4.1; have B4 := Lib.hid X4.2; clear hown4 hgrow4 hnil4 X4 R0 B0) | (rw [if_pos (by rfl)]; refine wp_append_own _ _ _ 23 rfl W.heap.size 41 i0 (.agg #[.int .i64 0, .int .i64 0]) 2 16 Try.underlying23 hi hz0 hz1 hz2 rfl (by decide) _ (k + 1) (flatP (C.take (k + 1))) rfl (by have := Y4.out.1; simp only [List.nil_append, lt2] at this; exact this) ⟨b, off + k * 2, none⟩ (n - k) (cp - k) (flatP (C.drop k)) rfl (by rw [flatP_len, ld0]) (flat_src (off := off) (fun i hi' => by rw [Below.cell B4.out (p := ⟨b, off + i * 2, none⟩) hb1, Below.cell B4.out (p := ⟨b, off + i * 2 + 1, none⟩) hb1]; exact hb2.out i hi') k seg_drop) (flatP_one _) (by unfold maxLen; omega) (by omega) (by have := Below.size B4.out; omega) ?_; intro v5 w5 hown5 hgrow5 hnil5; have X5 := part_step Y4.out B4.out (S := (C.drop k)) (by simp only [List.nil_append, lt2, ld0]; exact hown5) hgrow5 (fun e => Y4.out.2 (hnil5.1 e).1); have Y5 := Lib.hid X5.1; have B5 := Lib.hid X5.2; clear hown5 hgrow5 hnil5 X5 Y4 B4))
            have D6 := Lib.hid (bstep D5.out B5.out)
            have Yx6 := Yx.out.up B5.out
            obtain ⟨gx, hgx, Ox⟩ := Yx6.own (by rw [List.length_append, lt1, ld1]; omega)
            obtain ⟨gy, hgy, Oy⟩ := Y5.out.own (by rw [List.length_append, List.nil_append, lt2, ld0]; omega)
            have Ix := Lib.hid Ox.read
            have Iy := Lib.hid Oy.read
            clear Ox Oy Yx6 Yx Y5 B5 D5
            go_wp2_with fail
            refine (ival_any _ _ _ Ix.out).mono ?_
            rintro e w7 ⟨rfl, hb⟩
            have D7 := Lib.hid (bstep D6.out hb)
            have Iy7 := Lib.hid (Iy.out.up hb (Nat.le_refl _))
            clear hb D6 Ix Iy
            rw [hx.out]
            go_wp2_with fail
            refine (ival_any _ _ _ Iy7.out).mono ?_
            rintro e w8 ⟨rfl, hb⟩
            have D8 := Lib.hid (bstep D7.out hb)
            clear hb D7 Iy7
            rw [List.nil_append, hy.out]
            go_wp2_with fail
            go_ret
            exact ⟨rfl, D8.out⟩
          · have hcp2 : ¬ cp = k + 1 := fun e => hcp e.symm
            go_region_law (first | (rw [if_pos (by rfl)]; refine wp_append_own _ _ _ 23 rfl w3.heap.size 41 i0 (.agg #[.int .i64 0, .int .i64 0]) 2 16 Try.underlying23 hi hz0 hz1 hz2 rfl (by decide) _ 0 [] rfl R0.out.1 ⟨b, off, none⟩ k cp (flatP (C.take k)) rfl (by rw [flatP_len, lt1]) (flat_src (off := off) (fun i hi' => by rw [Below.cell B0.out (p := ⟨b, off + i * 2, none⟩) hb1, Below.cell B0.out (p := ⟨b, off + i * 2 + 1, none⟩) hb1]; exact hb2.out i hi') 0 (seg_take (by rw [hn.out]; omega))) (flatP_one _) (by unfold maxLen; omega) (by omega) (by have := Below.size B0.out; omega) ?_; intro v4 w4 hown4 hgrow4 hnil4; have X4 := part_step R0.out B0.out (S := (C.take k)) (by rw [lt1]; exact hown4) hgrow4 (fun e => R0.out.2 (hnil4.1 e).1); have Y4 := Lib.hid X4.1; have B4 := Lib.hid X4.2; clear hown4 hgrow4 hnil4 X4 R0 B0) | (rw [if_pos (by rfl)]; refine wp_append_own _ _ _ 23 rfl w3.heap.size 41 i0 (.agg #[.int .i64 0, .int .i64 0]) 2 16 Try.underlying23 hi hz0 hz1 hz2 rfl (by decide) _ k (flatP (C.take k)) rfl (by have := Y4.out.1; simp only [List.nil_append, lt1] at this; exact this) ⟨b, off + (k + 1) * 2, none⟩ (n - (k + 1)) (cp - (k + 1)) (flatP (C.drop (k + 1))) rfl (by rw [flatP_len, ld1]) (flat_src (off := off) (fun i hi' => by rw [Below.cell B4.out (p := ⟨b, off + i * 2, none⟩) hb1, Below.cell B4.out (p := ⟨b, off + i * 2 + 1, none⟩) hb1]; exact hb2.out i hi') (k + 1) seg_drop) (flatP_one _) (by unfold maxLen; omega) (by omega) (by have := Below.size B4.out; omega) ?_; intro v5 w5 hown5 hgrow5 hnil5; have X5 := part_step Y4.out B4.out (S := (C.drop (k + 1))) (by simp only [List.nil_append, lt1, ld1]; exact hown5) hgrow5 (fun e => Y4.out.2 (hnil5.1 e).1); have Y5 := Lib.hid X5.1; have B5 := Lib.hid X5.2; clear hown5 hgrow5 hnil5 X5 Y4 B4))
            have Y5 : Hid (Row w5 w3.heap.size v5 (C.take k ++ C.drop (k + 1))) := Lib.hid Y5.out
            obtain ⟨W, hW⟩ : ∃ W, W = w5 := ⟨_, rfl⟩
            have D5 := Lib.hid (bstep D3.out B5.out)
            have hb2 : Hid (∀ i, i < C.length → W.cell? ⟨b, off + i * 2, none⟩ = some (.int .i64 (C.getD i nop).1) ∧ W.cell? ⟨b, off + i * 2 + 1, none⟩ = some (.int .i64 (C.getD i nop).2)) := Lib.hid (fun i hi' => by rw [hW, Below.cell B5.out (p := ⟨b, off + i * 2, none⟩) hb1, Below.cell B5.out (p := ⟨b, off + i * 2 + 1, none⟩) hb1]; exact hb2.out i hi')
            have hb1 : b < W.heap.size := by rw [hW]; exact Nat.lt_of_lt_of_le hb1 B5.out.size
            have s35 : w3.heap.size ≤ W.heap.size := by rw [hW]; exact B5.out.size
            rw [← hW] at D5 Y5 ⊢
            obtain ⟨vx, hvx⟩ : ∃ vx, vx = v5 := ⟨_, rfl⟩
            rw [← hvx] at Y5 ⊢
            have Yx := Lib.hid Y5.out
            clear hW hvx Y5 B5 D3
            have R0 : Hid (Row ((W.alloc (.cells #[] 41)).drew) W.heap.size (.slice (some ⟨W.heap.size, 0, none⟩) 0 0) []) := Lib.hid (row_new W W.heap.size (Nat.le_refl _))
            have B0 : Hid (Below W.heap.size W ((W.alloc (.cells #[] 41)).drew)) := Lib.hid ((Below.refl _ _).alloc (Nat.le_refl _) _).drew
            go_wp2_with fail
            go_region_law (first | (rw [if_pos (by rfl)]; refine wp_append_own _ _ _ 23 rfl W.heap.size 41 i0 (.agg #[.int .i64 0, .int .i64 0]) 2 16 Try.underlying23 hi hz0 hz1 hz2 rfl (by decide) _ 0 [] rfl R0.out.1 ⟨b, off, none⟩ (k + 1) cp (flatP (C.take (k + 1))) rfl (by rw [flatP_len, lt2]) (flat_src (off := off) (fun i hi' => by rw [Below.cell B0.out (p := ⟨b, off + i * 2, none⟩) hb1, Below.cell B0.out (p := ⟨b, off + i * 2 + 1, none⟩) hb1]; exact hb2.out i hi') 0 (seg_take (by rw [hn.out]; omega))) (flatP_one _) (by unfold maxLen; omega) (by omega) (by have := Below.size B0.out; omega) ?_; intro v4 w4 hown4 hgrow4 hnil4; have X4 := part_step R0.out B0.out (S := (C.take (k + 1))) (by rw [lt2]; exact hown4) hgrow4 (fun e => R0.out.2 (hnil4.1 e).1); have Y4 := Lib.hid X4.1; have B4 := Lib.hid X4.2; clear hown4 hgrow4 hnil4 X4 R0 B0) | (rw [if_pos (by rfl)]; refine wp_append_own _ _ _ 23 rfl W.heap.size 41 i0 (.agg #[.int .i64 0, .int .i64 0]) 2 16 Try.underlying23 hi hz0 hz1 hz2 rfl (by decide) _ (k + 1) (flatP (C.take (k + 1))) rfl (by have := Y4.out.1; simp only [List.nil_append, lt2] at this; exact this) ⟨b, off + k * 2, none⟩ (n - k) (cp - k) (flatP (C.drop k)) rfl (by rw [flatP_len, ld0]) (flat_src (off := off) (fun i hi' => by rw [Below.cell B4.out (p := ⟨b, off + i * 2, none⟩) hb1, Below.cell B4.out (p := ⟨b, off + i * 2 + 1, none⟩) hb1]; exact hb2.out i hi') k seg_drop) (flatP_one _) (by unfold maxLen; omega) (by omega) (by have := Below.size B4.out; omega) ?_; intro v5 w5 hown5 hgrow5 hnil5; have X5 := part_step Y4.out B4.out (S := (C.drop k)) (by simp only [List.nil_append, lt2, ld0]; exact hown5) hgrow5 (fun e => Y4.out.2 (hnil5.1 e).1); have Y5 := Lib.hid X5.1; have B5 := Lib.hid X5.2; clear hown5 hgrow5 hnil5 X5 Y4 B4))
            have D6 := Lib.hid (bstep D5.out B5.out)
            have Yx6 := Yx.out.up B5.out
            obtain ⟨gx, hgx, Ox⟩ := Yx6.own (by rw [List.length_append, lt1, ld1]; omega)
            obtain ⟨gy, hgy, Oy⟩ := Y5.out.own (by rw [List.length_append, List.nil_append, lt2, ld0]; omega)
            have Ix := Lib.hid Ox.read
            have Iy := Lib.hid Oy.read
            clear Ox Oy Yx6 Yx Y5 B5 D5
            go_wp2_with fail
            refine (ival_any _ _ _ Ix.out).mono ?_
            rintro e w7 ⟨rfl, hb⟩
            have D7 := Lib.hid (bstep D6.out hb)
            have Iy7 := Lib.hid (Iy.out.up hb (Nat.le_refl _))
            clear hb D6 Ix Iy
            rw [hx.out]
            go_wp2_with fail
            refine (ival_any _ _ _ Iy7.out).mono ?_
            rintro e w8 ⟨rfl, hb⟩
            have D8 := Lib.hid (bstep D7.out hb)
            clear hb D7 Iy7
            rw [List.nil_append, hy.out]
            go_wp2_with fail
            go_ret
            exact ⟨rfl, D8.out⟩
end Go.Proofs.Ytigaepbhbfpijaa

/- What the frames of all proofs use: the program's own knob, the layout, a code that came in. -/
namespace Go.Proofs.Ytigaepbhbfpijaa
open Go.ChangeShapes Go.WideShapes Go.ChangeAt Go.RowKit Go.Joins
set_option linter.unusedVariables false

theorem own : ownKnob Try.prog.godebug = none := by kernel_rfl
theorem laidOut : laidOutB Try.prog = true := by kernel_rfl
theorem cells_lawsId : Try.prog.cellsOf 52 = 2 := by kernel_rfl

theorem code_of_row {w : World} {x : Addr} {len cap : Nat} {zs : List Int} (hl : len ≤ cap) (hz : zs.length = cap) (hcell : ∀ i, i < zs.length → w.cell? (x.add i) = some (.int .u8 (zs.getD i 0))) (hwz : ∀ n ∈ zs, (Lit.int .u8 n).wf = true) :
    CodeIn w (some x) len cap := by
  refine ⟨hl, ?_⟩
  by_cases h0 : len = 0
  · exact .inl h0
  · obtain ⟨b, off, spot⟩ := x
    have hc := hcell 0 (by omega)
    have hspot : spot = none := by simpa [Addr.add] using World.cell?_spot hc
    subst hspot
    refine .inr ⟨b, off, rfl, ?_, fun i hi => ?_⟩
    · have := World.block_lt_of_cell? w _ hc
      simpa [Addr.add] using this
    · have h1 := hcell i (by omega)
      have h2 : (Lit.int .u8 (zs.getD i 0)).wf = true := by
        rw [List.getD_eq_getElem?_getD, List.getElem?_eq_getElem (by omega)]
        exact hwz _ (List.getElem_mem _)
      have h3 : 0 ≤ zs.getD i 0 ∧ zs.getD i 0 ≤ 255 := by simpa [Lit.wf, IntKind.min, IntKind.max, IntKind.signed, IntKind.bits] using h2
      exact ⟨zs.getD i 0, h3.1, h3.2, by
        have e : (⟨b, off, none⟩ : Addr).add i = ⟨b, off + i, none⟩ := by unfold Addr.add; split <;> simp_all
        rw [e] at h1; exact h1⟩
end Go.Proofs.Ytigaepbhbfpijaa

/- The laws' copies of ids. -/
namespace Go.Proofs.Ytigaepbhbfpijaa
open Go.RowKit
set_option linter.unusedVariables false

theorem toId_any (r n : Int) (w : World) :
    Calls Try.prog 26 #[.agg #[.int .i64 r, .int .i64 n]] w fun e w' => e = .returned (.agg #[.int .i64 r, .int .i64 n]) ∧ Below w.heap.size w w' := by
  go_enter Try.func26, Try.ntmps26
  go_wp2_with fail
  exact bodyPost_ret (v := .agg #[.int .i64 r, .int .i64 n]) (by simp [results, Try.results26, go_sem]) rfl ⟨rfl, by repeat (first | with_reducible exact Below.refl _ _ | with_reducible refine Below.setCell ?_ (by first | (simp; done) | (simp; omega)) _ | with_reducible refine Below.alloc ?_ (by first | (simp; done) | (simp; omega)) _)⟩

end Go.Proofs.Ytigaepbhbfpijaa

/- The laws' copies, comparisons and marks of slices of ids. -/
namespace Go.Proofs.Ytigaepbhbfpijaa
open Go.RowKit
set_option linter.unusedVariables false

theorem madeP (n j : Nat) (h : j < n * 2) : (madeCells #[.int .i64 0, .int .i64 0] (n * 2))[j]? = some (.int .i64 0) := by
  unfold madeCells
  rw [Array.getElem?_map, Array.getElem?_range]
  rw [if_pos h]
  have : j % 2 = 0 ∨ j % 2 = 1 := by omega
  rcases this with e | e <;> simp [e]

theorem repP_get (n i : Nat) : (List.replicate n nop).getD i nop = nop := by
  rw [List.getD_eq_getElem?_getD, List.getElem?_replicate]
  split <;> rfl

theorem ownP_made (w : World) (n : Nat) (hn : n ≤ 2000000) (t : TypeId) : OwnP (w.alloc (.cells (madeCells #[.int .i64 0, .int .i64 0] (n * 2)) t)) w.heap.size (.slice (some ⟨w.heap.size, 0, none⟩) n n) (List.replicate n nop) := by
  refine ⟨n, _, t, by simp, heap_alloc_new w _, by simp, by simpa using hn, fun i hi => ?_⟩
  rw [List.length_replicate] at hi
  rw [madeP n _ (by omega), madeP n _ (by omega), repP_get]
  exact ⟨rfl, rfl⟩

theorem info_id : (Try.prog.info? 41).map (fun i => (i.zero, i.size, i.bytes)) = some (some (.agg #[.int .i64 0, .int .i64 0]), 2, 16) := by kernel_rfl

theorem made_ids (n : Nat) (hn : n ≤ 2000000) (w : World) : (Instr.makeSlice 23 (.int .i64 n) (.int .i64 n)).run Try.prog w = .ok (.slice (some ⟨w.heap.size, 0, none⟩) n n) (w.alloc (.cells (madeCells #[.int .i64 0, .int .i64 0] (n * 2)) 41)) := by
  obtain ⟨i, hi, hz, hs, hb⟩ := info_parts info_id
  have hr := run_make (P := Try.prog) w 23 41 i _ Try.underlying23 hi hz .i64 .i64 n n (by omega) (Int.le_refl _) (by rw [hb]; omega) (by omega)
  simp only [Int.toNat_natCast, hs] at hr
  exact hr

theorem id_same {A B : List Pid} (hl : A.length = B.length) (h : ∀ j, j < A.length → A.getD j nop = B.getD j nop) : A = B := by
  apply List.ext_getElem hl
  intro i h1 h2
  have := h i h1
  rw [List.getD_eq_getElem?_getD, List.getD_eq_getElem?_getD, List.getElem?_eq_getElem h1, List.getElem?_eq_getElem h2] at this
  simpa using this
theorem id_up {M C : List Pid} {k : Nat} (hM : k < M.length) (h : ∀ j, j < k → M.getD j nop = C.getD j nop) : ∀ j, j < k + 1 → (M.set k (C.getD k nop)).getD j nop = C.getD j nop := by
  intro j hj
  by_cases e : j = k
  · subst e; rw [List.getD_eq_getElem?_getD, List.getElem?_set_self hM]; rfl
  · rw [List.getD_eq_getElem?_getD, List.getElem?_set_ne (fun x => e x.symm), ← List.getD_eq_getElem?_getD]; exact h j (by omega)

/-- What toIdS leaves: a copy in a block of its own. -/
def CopPPost (C : List Pid) (w : World) (e : Ending) (w' : World) : Prop :=
  ∃ b u, w.heap.size ≤ b ∧ e = .returned u ∧ OwnP w' b u C ∧ Below w.heap.size w w'

set_option maxRecDepth 100000 in
set_option maxHeartbeats 2000000 in
theorem toP_at (b off ca : Nat) (C : List Pid) (w : World) (hb : b < w.heap.size) (hm : C.length ≤ 2000000) (h : ∀ i, i < C.length → w.cell? ⟨b, off + i * 2, none⟩ = some (.int .i64 (C.getD i nop).1) ∧ w.cell? ⟨b, off + i * 2 + 1, none⟩ = some (.int .i64 (C.getD i nop).2)) :
    Calls Try.prog 15 #[.slice (some ⟨b, off, none⟩) C.length ca] w (CopPPost C w) := by
  have hmk := made_ids C.length hm
  have h := Lib.hid h
  have hO := Lib.hid (ownP_made w C.length hm 41)
  obtain ⟨n, hn⟩ : ∃ n, Hid (C.length = n) := ⟨_, Lib.hid rfl⟩
  rw [hn.out] at hmk hm hO ⊢
  go_enter Try.func15, Try.ntmps15
  go_wp2_with fail
  clear hmk
  go_loopw [4] (fun i wr => ∃ k : Nat, k ≤ n ∧ i = .int .i64 k ∧ ∃ M : List Pid, Hid (M.length = n ∧ (∀ j, j < k → M.getD j nop = C.getD j nop) ∧ OwnP wr w.heap.size (.slice (some ⟨w.heap.size, 0, none⟩) n n) M) ∧ Below w.heap.size w wr) (fun i _ => n - (intOf i).toNat)
  case atStart => exact ⟨0, Nat.zero_le _, rfl, List.replicate n nop, Lib.hid ⟨by simp, fun j hj => absurd hj (Nat.not_lt_zero _), hO.out⟩, (Below.refl _ _).alloc (Nat.le_refl _) _⟩
  case round =>
    obtain ⟨k, hk, rfl, M, hM, hnx⟩ := hrel
    clear hO
    by_cases hlt : k < n
    · obtain ⟨h0, h1⟩ := h.out k (by rw [hn.out]; exact hlt)
      have q0 := (hnx.cell (p := ⟨b, off + k * 2, none⟩) hb).trans h0
      have q1 := (hnx.cell (p := ⟨b, off + k * 2 + 1, none⟩) hb).trans h1
      clear h0 h1
      obtain ⟨c, hc⟩ : ∃ c, Hid (C.getD k nop = c) := ⟨_, Lib.hid rfl⟩
      rw [hc.out] at q0 q1
      obtain ⟨x, y⟩ := c
      dsimp only at q0 q1
      have hs := Lib.hid hM.out.2.2.lt
      have hnx := Lib.hid hnx
      go_wp2_with fail
      refine (toId_any x y _).mono ?_
      rintro e w1 ⟨rfl, B⟩
      have hO1 := hM.out.2.2.up B hs.out
      obtain ⟨d0, d1⟩ := hO1.cell k (by rw [hM.out.1]; exact hlt)
      have f0 := hO1.free (k * 2)
      have f1 := hO1.free (k * 2 + 1)
      have hs1 := hO1.lt
      have R := Lib.hid (hO1.set k (by rw [hM.out.1]; exact hlt) (x, y))
      have R2 := Lib.hid (id_up (C := C) (by rw [hM.out.1]; exact hlt) hM.out.2.1)
      have hl := Lib.hid hM.out.1
      have D1 := Lib.hid (hnx.out.trans (B.mono hnx.out.size))
      generalize M.getD k nop = y0 at d0 d1
      clear hM h hO1 B hnx q0 q1 hs
      go_wp2_with fail
      go_roundw
      case rel => exact ⟨k + 1, by omega, by go_num, M.set k (x, y), Lib.hid ⟨by rw [List.length_set]; exact hl.out, by rw [← hc.out]; exact R2.out, R.out⟩, (D1.out.setCell (by simp) _).setCell (by simp) _⟩
      case measure => simp [intOf]; omega
    · obtain rfl : k = n := by omega
      have e : Hid (M = C) := Lib.hid (id_same (hM.out.1.trans hn.out.symm) (fun j hj => hM.out.2.1 j (by rw [← hM.out.1]; exact hj)))
      have hnx := Lib.hid hnx
      clear h
      go_wp2_with fail
      go_ret
      exact ⟨w.heap.size, _, Nat.le_refl _, rfl, by rw [← e.out]; exact hM.out.2.2, hnx.out⟩

theorem toP_nil (a : Option Addr) (ca : Nat) (w : World) :
    Calls Try.prog 15 #[.slice a 0 ca] w (CopPPost [] w) := by
  have hmk : ∀ w : World, (Instr.makeSlice 23 (.int .i64 0) (.int .i64 0)).run Try.prog w = .ok (.slice (some ⟨w.heap.size, 0, none⟩) 0 0) (w.alloc (.cells (madeCells #[.int .i64 0, .int .i64 0] (0 * 2)) 41)) := made_ids 0 (by omega)
  have hO := Lib.hid (ownP_made w 0 (by omega) 41)
  go_enter Try.func15, Try.ntmps15
  go_wp2_with fail
  refine wp_loop_rounds 1 ?_
  rw [rounds_succ]
  go_wp2_with fail
  go_ret
  exact ⟨w.heap.size, _, Nat.le_refl _, rfl, hO.out, (Below.refl _ _).alloc (Nat.le_refl _) _⟩

/-- A COPY. -/
theorem toP_any (u : Value) (C : List Pid) (w : World) (h : Ids w u C) :
    Calls Try.prog 15 #[u] w (CopPPost C w) := by
  obtain ⟨a, cap, rfl, h1, h2, h3⟩ := h
  rcases h3 with h3 | ⟨b, off, rfl, h4, h5⟩
  · obtain rfl : C = [] := List.length_eq_zero_iff.1 h3
    exact toP_nil a cap w
  · exact toP_at b off cap C w h4 h2 h5

theorem eqP1 (x y : Int) (w : World) :
    Calls Try.prog 27 #[.agg #[.int .i64 x, .int .i64 y], .agg #[.int .i64 x, .int .i64 y]] w fun e w' => e = .returned (.bool true) ∧ Below w.heap.size w w' := by
  go_enter Try.func27, Try.ntmps27
  go_wp2_with fail
  go_ret
  exact ⟨rfl, ((Below.refl _ _).alloc (Nat.le_refl _) _).alloc (by simp) _⟩

set_option maxRecDepth 100000 in
set_option maxHeartbeats 2000000 in
theorem eqP_at (a b oa ob ca cb : Nat) (C : List Pid) (w : World) (hm : C.length ≤ 2000000) (ha : a < w.heap.size) (hb : b < w.heap.size)
    (hA : ∀ i, i < C.length → w.cell? ⟨a, oa + i * 2, none⟩ = some (.int .i64 (C.getD i nop).1) ∧ w.cell? ⟨a, oa + i * 2 + 1, none⟩ = some (.int .i64 (C.getD i nop).2))
    (hB : ∀ i, i < C.length → w.cell? ⟨b, ob + i * 2, none⟩ = some (.int .i64 (C.getD i nop).1) ∧ w.cell? ⟨b, ob + i * 2 + 1, none⟩ = some (.int .i64 (C.getD i nop).2)) :
    Calls Try.prog 16 #[.slice (some ⟨a, oa, none⟩) C.length ca, .slice (some ⟨b, ob, none⟩) C.length cb] w fun e w' => e = .returned (.bool true) ∧ Below w.heap.size w w' := by
  have hA := Lib.hid hA
  have hB := Lib.hid hB
  obtain ⟨n, hn⟩ : ∃ n, Hid (C.length = n) := ⟨_, Lib.hid rfl⟩
  rw [hn.out] at hm ⊢
  go_enter Try.func16, Try.ntmps16
  go_wp2_with fail
  go_loopw [5] (fun i wr => ∃ k : Nat, k ≤ n ∧ i = .int .i64 k ∧ Below w.heap.size w wr) (fun i _ => n - (intOf i).toNat)
  case atStart => exact ⟨0, Nat.zero_le _, rfl, Below.refl _ _⟩
  case round =>
    obtain ⟨k, hk, rfl, hnx⟩ := hrel
    by_cases hlt : k < n
    · obtain ⟨h0, h1⟩ := hA.out k (by rw [hn.out]; exact hlt)
      have q0 := (hnx.cell (p := ⟨a, oa + k * 2, none⟩) ha).trans h0
      have q1 := (hnx.cell (p := ⟨a, oa + k * 2 + 1, none⟩) ha).trans h1
      clear h0 h1
      obtain ⟨h0, h1⟩ := hB.out k (by rw [hn.out]; exact hlt)
      have r0 := (hnx.cell (p := ⟨b, ob + k * 2, none⟩) hb).trans h0
      have r1 := (hnx.cell (p := ⟨b, ob + k * 2 + 1, none⟩) hb).trans h1
      clear h0 h1 hA hB
      generalize C.getD k nop = c at q0 q1 r0 r1
      obtain ⟨x, y⟩ := c
      dsimp only at q0 q1 r0 r1
      have hnx := Lib.hid hnx
      go_wp2_with fail
      go_region_with (first | (go_at_call 27; refine (eqP1 x y _).mono ?_; rintro e w1 ⟨rfl, B⟩; have D1 := Lib.hid (bstep (Below.drew hnx.out) B); clear B))
      all_goals
        go_wp2_with fail
        go_roundw
        case rel => exact ⟨k + 1, by omega, by go_num, D1.out⟩
        case measure => simp [intOf]; omega
    · obtain rfl : k = n := by omega
      have hnx := Lib.hid hnx
      clear hA hB
      go_wp2_with fail
      go_ret
      exact ⟨rfl, hnx.out⟩

theorem eqP_nil (a b : Option Addr) (ca cb : Nat) (w : World) :
    Calls Try.prog 16 #[.slice a 0 ca, .slice b 0 cb] w fun e w' => e = .returned (.bool true) ∧ Below w.heap.size w w' := by
  go_enter Try.func16, Try.ntmps16
  go_wp2_with fail
  refine wp_loop_rounds 1 ?_
  rw [rounds_succ]
  go_wp2_with fail
  go_ret
  exact ⟨rfl, Below.refl _ _⟩

theorem eqP_any (u x : Value) (C : List Pid) (w : World) (h : Ids w u C) (g : Ids w x C) :
    Calls Try.prog 16 #[u, x] w fun e w' => e = .returned (.bool true) ∧ Below w.heap.size w w' := by
  obtain ⟨a, cap, rfl, h1, h2, h3⟩ := h
  obtain ⟨b, cap', rfl, g1, g2, g3⟩ := g
  rcases h3 with h3 | ⟨a, off, rfl, h4, h5⟩
  · obtain rfl : C = [] := List.length_eq_zero_iff.1 h3
    exact eqP_nil a b cap cap' w
  · rcases g3 with g3 | ⟨b, off', rfl, g4, g5⟩
    · obtain rfl : C = [] := List.length_eq_zero_iff.1 g3
      exact eqP_nil _ b cap cap' w
    · exact eqP_at a b off off' cap cap' C w h2 h4 g4 h5 g5
end Go.Proofs.Ytigaepbhbfpijaa
