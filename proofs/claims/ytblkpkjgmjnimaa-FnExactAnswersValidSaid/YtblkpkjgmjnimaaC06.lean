/- Texts laid together. -/
import Derived.Test.YtblkpkjgmjnimaaProg
import Derived.WalkKit
import Derived.WalkSpells
import Derived.Lib.Hide
import Derived.Deep.QuietTactic
import Derived.BigQuiet
/- The reader of codes (spec.l6Rd): what it holds, and its pick. -/
namespace Go.Proofs.Ytblkpkjgmjnimaa
open Go.RowKit
set_option linter.unusedVariables false

/-- Below block B, block r aside, the world is as it was. -/
structure Keep (B r : Nat) (w w' : World) : Prop where
  os : w'.os = w.os
  tape : w'.tape = w.tape
  output : w'.output = w.output
  size : w.heap.size ≤ w'.heap.size
  block : ∀ k, k < B → k ≠ r → w'.heap[k]? = w.heap[k]?

theorem Keep.refl (B r : Nat) (w : World) : Keep B r w w := ⟨rfl, rfl, rfl, Nat.le_refl _, fun _ _ _ => rfl⟩
theorem Keep.trans {B r : Nat} {a b c : World} (h : Keep B r a b) (k : Keep B r b c) : Keep B r a c :=
  ⟨k.os.trans h.os, k.tape.trans h.tape, k.output.trans h.output, Nat.le_trans h.size k.size, fun i hi hr => (k.block i hi hr).trans (h.block i hi hr)⟩
theorem Keep.mono {B B' r : Nat} {w w' : World} (h : Keep B r w w') (hB : B' ≤ B) : Keep B' r w w' := ⟨h.os, h.tape, h.output, h.size, fun k hk => h.block k (Nat.lt_of_lt_of_le hk hB)⟩
theorem Keep.of_below {B r : Nat} {w w' : World} (h : Below B w w') : Keep B r w w' := ⟨h.os, h.tape, h.output, h.size, fun k hk _ => h.block k hk⟩
theorem Keep.below {B r : Nat} {w w' : World} (h : Keep B r w w') (hr : B ≤ r) : Below B w w' := ⟨h.os, h.tape, h.output, h.size, fun k hk => h.block k hk (by omega)⟩
theorem Keep.drewN {B r : Nat} {a w : World} (h : Keep B r a w) (n : Nat) : Keep B r a (w.drewN n) := ⟨h.os, h.tape, h.output, h.size, h.block⟩
theorem Keep.alloc {B r : Nat} {a w : World} (h : Keep B r a w) (hB : B ≤ w.heap.size) (o : Obj) : Keep B r a (w.alloc o) :=
  h.trans (Keep.of_below ((Below.refl B w).alloc hB o))
theorem Keep.setCell {B r : Nat} {a w : World} (h : Keep B r a w) {p : Addr} (hp : B ≤ p.block) (u : Value) : Keep B r a (w.setCell p u) :=
  h.trans (Keep.of_below ((Below.refl B w).setCell hp u))
theorem Keep.setR {B r : Nat} {a w : World} (h : Keep B r a w) (i : Nat) (u : Value) : Keep B r a (w.setCell ⟨r, i, none⟩ u) :=
  h.trans ⟨rfl, rfl, rfl, by simp [World.setCell], fun k _ hk => Below.heap_setCell _ _ _ _ hk⟩

/-- What a walk takes of it: cells and marks of blocks behind r that were there. -/
theorem kcell {r : Nat} {W w1 : World} (hb : Keep W.heap.size r W w1) : (∀ b o, r < b → b < W.heap.size → w1.cell? ⟨b, o, none⟩ = W.cell? ⟨b, o, none⟩) ∧ (∀ b o, r < b → b < W.heap.size → w1.frozen? ⟨b, o, none⟩ = W.frozen? ⟨b, o, none⟩) :=
  ⟨fun b o hr h => World.cell?_of_block (a := ⟨b, o, none⟩) (hb.block b h (by omega)), fun b o hr h => World.frozen?_of_block (a := ⟨b, o, none⟩) (hb.block b h (by omega))⟩

/-- The bytes of a code: none, or the cells of a block. -/
def Bytes (w : World) (r : Nat) (a : Option Addr) (len : Nat) : Prop :=
  len = 0 ∨ ∃ b off, a = some ⟨b, off, none⟩ ∧ b < r ∧ ∀ i, i < len → ∃ z : Int, 0 ≤ z ∧ z ≤ 255 ∧ w.cell? ⟨b, off + i, none⟩ = some (.int .u8 z)

/-- A reader in block r, at a place up to n. -/
def Rd (w : World) (r n : Nat) : Prop :=
  ∃ (a : Option Addr) (len cap : Nat) (p : Int), w.cell? ⟨r, 0, none⟩ = some (.slice a len cap) ∧ w.cell? ⟨r, 1, none⟩ = some (.int .i64 p) ∧ w.frozen? ⟨r, 1, none⟩ = false ∧ 0 ≤ p ∧ p ≤ n ∧ len ≤ 2000 ∧ r < w.heap.size ∧ Bytes w r a len


/-- What pick leaves. -/
def PickPost (k : Int) (r n : Nat) (w : World) (e : Ending) (w' : World) : Prop :=
  ∃ x : Int, e = .returned (.int .i64 x) ∧ 0 ≤ x ∧ (1 ≤ k → x < k) ∧ Rd w' r (n + 1) ∧ Keep w.heap.size r w w'

theorem Bytes.kept {w w' : World} {r : Nat} {a : Option Addr} {len : Nat} (h : Bytes w r a len) (hk : ∀ k, k < r → w'.heap[k]? = w.heap[k]?) : Bytes w' r a len := by
  rcases h with h | ⟨b, off, e, hb, hc⟩
  · exact .inl h
  · exact .inr ⟨b, off, e, hb, fun i hi => by
      obtain ⟨z, z0, z1, hz⟩ := hc i hi
      exact ⟨z, z0, z1, (World.cell?_of_block (a := ⟨b, off + i, none⟩) (hk b hb)).trans hz⟩⟩

/-- A reader is still the reader where nothing up to its block has turned. -/
theorem Rd.kept {w w' : World} {r n : Nat} (h : Rd w r n) (hb : Below (r + 1) w w') : Rd w' r n := by
  obtain ⟨a, len, cap, p, h0, h1, hf, hp0, hp1, hl, hr, hby⟩ := h
  exact ⟨a, len, cap, p, (hb.cell (p := ⟨r, 0, none⟩) (Nat.lt_succ_self r)).trans h0, (hb.cell (p := ⟨r, 1, none⟩) (Nat.lt_succ_self r)).trans h1, (hb.frozen (p := ⟨r, 1, none⟩) (Nat.lt_succ_self r)).trans hf, hp0, hp1, hl, Nat.lt_of_lt_of_le hr hb.size, hby.kept (fun k hk => hb.block k (by omega))⟩

theorem Rd.more {w : World} {r n m : Nat} (h : Rd w r n) (hm : n ≤ m) : Rd w r m := by
  obtain ⟨a, len, cap, p, h0, h1, hf, hp0, hp1, hl, hr, hby⟩ := h
  exact ⟨a, len, cap, p, h0, h1, hf, hp0, by omega, hl, hr, hby⟩

theorem Rd.lt {w : World} {r n : Nat} (h : Rd w r n) : r < w.heap.size := by
  obtain ⟨a, len, cap, p, h0, h1, hf, hp0, hp1, hl, hr, hby⟩ := h
  exact hr

/-- The place goes on by one. -/
theorem rd_next {w : World} {r n : Nat} {a : Option Addr} {len cap : Nat} {p : Int} (h0 : w.cell? ⟨r, 0, none⟩ = some (.slice a len cap)) (h1 : w.cell? ⟨r, 1, none⟩ = some (.int .i64 p)) (hf : w.frozen? ⟨r, 1, none⟩ = false)
    (hp0 : 0 ≤ p) (hp1 : p ≤ n) (hl : len ≤ 2000) (hr : r < w.heap.size) (hb : Bytes w r a len) : Rd (w.setCell ⟨r, 1, none⟩ (.int .i64 (p + 1))) r (n + 1) := by
  refine ⟨a, len, cap, p + 1, ?_, ?_, ?_, by omega, by omega, hl, by simpa using hr, hb.kept fun k hk => Below.heap_setCell _ _ _ _ (by simp; omega)⟩
  · go_simp
  · go_simp
  · go_simp

theorem Rd.alloc {w : World} {r n : Nat} (h : Rd w r n) (o : Obj) : Rd (w.alloc o) r n :=
  h.kept ((Below.refl _ _).alloc (Nat.succ_le_of_lt h.lt) _)
theorem Rd.setCell {w : World} {r n : Nat} (h : Rd w r n) {p : Addr} (hp : r < p.block) (u : Value) : Rd (w.setCell p u) r n :=
  h.kept ((Below.refl _ _).setCell (Nat.succ_le_of_lt hp) _)
theorem Rd.drewN {w : World} {r n : Nat} (h : Rd w r n) (m : Nat) : Rd (w.drewN m) r n :=
  h.kept ⟨rfl, rfl, rfl, Nat.le_refl _, fun _ _ => rfl⟩

theorem xor_i64 (a b : Nat) (ha : a < 9223372036854775808) (hb : b < 9223372036854775808) : bits .xor .i64 (a : Int) (b : Int) = ((a ^^^ b : Nat) : Int) := by
  have hx : a ^^^ b < 2 ^ 63 := Nat.xor_lt_two_pow (by omega) (by omega)
  have h1 : (BitVec.ofInt 64 (a : Int)).toNat = a := by
    rw [BitVec.ofInt_natCast, BitVec.toNat_ofNat]; exact Nat.mod_eq_of_lt (by omega)
  have h2 : (BitVec.ofInt 64 (b : Int)).toNat = b := by
    rw [BitVec.ofInt_natCast, BitVec.toNat_ofNat]; exact Nat.mod_eq_of_lt (by omega)
  show IntKind.i64.wrap ((BitVec.ofInt 64 (a : Int) ^^^ BitVec.ofInt 64 (b : Int)).toNat : Int) = _
  rw [BitVec.toNat_xor, h1, h2, IntKind.wrap_i64]
  omega

theorem xor_nn (x y : Int) (hx : 0 ≤ x) (hx' : x < 9223372036854775808) (hy : 0 ≤ y) (hy' : y < 9223372036854775808) : 0 ≤ bits .xor .i64 x y := by
  obtain ⟨a, rfl⟩ := Int.eq_ofNat_of_zero_le hx
  obtain ⟨b, rfl⟩ := Int.eq_ofNat_of_zero_le hy
  rw [xor_i64 a b (by omega) (by omega)]
  omega

set_option maxRecDepth 100000 in
set_option maxHeartbeats 1000000 in
theorem pick_low (k : Int) (r n : Nat) (w : World) (hrd : Rd w r n) (hn : n ≤ 1000000000) (hk : k < 1) :
    Calls Try.prog 24 #[.pointer (some ⟨r, 0, none⟩), .int .i64 k] w (PickPost k r n w) := by
  obtain ⟨a, len, cap, p, h0, h1, hf, hp0, hp1, hl, hr, hb⟩ := hrd
  have hnx := Lib.hid (rd_next h0 h1 hf hp0 hp1 hl hr hb)
  go_enter Try.func24, Try.ntmps24
  go_wp2_with fail
  go_ret
  exact ⟨0, rfl, Int.le_refl _, fun h => by omega, hnx.out, (Keep.refl _ _ _).setR _ _⟩

set_option maxRecDepth 100000 in
set_option maxHeartbeats 1000000 in
theorem pick_nil (k : Int) (r n : Nat) (w : World) (a : Option Addr) (cap : Nat) (p : Int) (h0 : w.cell? ⟨r, 0, none⟩ = some (.slice a 0 cap)) (h1 : w.cell? ⟨r, 1, none⟩ = some (.int .i64 p)) (hf : w.frozen? ⟨r, 1, none⟩ = false)
    (hp0 : 0 ≤ p) (hp1 : p ≤ n) (hr : r < w.heap.size) (hb : Bytes w r a 0) (hn : n ≤ 1000000000) (hk : 1 ≤ k) :
    Calls Try.prog 24 #[.pointer (some ⟨r, 0, none⟩), .int .i64 k] w (PickPost k r n w) := by
  have hnx := Lib.hid (rd_next h0 h1 hf hp0 hp1 (by omega) hr hb)
  go_enter Try.func24, Try.ntmps24
  go_wp2_with fail
  go_ret
  exact ⟨0, rfl, Int.le_refl _, fun h => by omega, hnx.out, (Keep.refl _ _ _).setR _ _⟩

set_option maxRecDepth 100000 in
set_option maxHeartbeats 1000000 in
theorem pick_at (k : Int) (r n : Nat) (w : World) (len cap : Nat) (p b off : Nat) (h0 : w.cell? ⟨r, 0, none⟩ = some (.slice (some ⟨b, off, none⟩) len cap)) (h1 : w.cell? ⟨r, 1, none⟩ = some (.int .i64 p)) (hf : w.frozen? ⟨r, 1, none⟩ = false)
    (hp1 : p ≤ n) (hl : len ≤ 2000) (hr : r < w.heap.size) (hb : Bytes w r (some ⟨b, off, none⟩) len) (hn : n ≤ 1000000000) (hbr : b < r) (hk : 1 ≤ k) (hpl : p < len) (z : Int) (hz : w.cell? ⟨b, off + p, none⟩ = some (.int .u8 z)) (hz0 : 0 ≤ z) (hz1 : z ≤ 255) :
    Calls Try.prog 24 #[.pointer (some ⟨r, 0, none⟩), .int .i64 k] w (PickPost k r n w) := by
  have hnx := Lib.hid (rd_next (n := n) h0 h1 hf (by omega) (by omega) hl hr hb)
  have hne : ((len : Int) == 0) = false := by simp; omega
  go_enter Try.func24, Try.ntmps24
  go_wp2_with fail
  go_ret
  exact ⟨z % k, rfl, Int.emod_nonneg _ (by omega), fun h => Int.emod_lt_of_pos _ (by omega), hnx.out, (Keep.refl _ _ _).setR _ _⟩

set_option maxRecDepth 100000 in
set_option maxHeartbeats 1000000 in
theorem pick_past (k : Int) (r n : Nat) (w : World) (len cap : Nat) (p : Int) (b off : Nat) (h0 : w.cell? ⟨r, 0, none⟩ = some (.slice (some ⟨b, off, none⟩) len cap)) (h1 : w.cell? ⟨r, 1, none⟩ = some (.int .i64 p)) (hf : w.frozen? ⟨r, 1, none⟩ = false)
    (hp0 : 0 ≤ p) (hp1 : p ≤ n) (hl : len ≤ 2000) (hr : r < w.heap.size) (hb : Bytes w r (some ⟨b, off, none⟩) len) (hn : n ≤ 1000000000) (hl0 : 0 < len) (hbr : b < r) (hk : 1 ≤ k) (hpl : len ≤ p) (z1 z2 : Int) (hz1 : w.cell? ⟨b, off + (p % len).toNat, none⟩ = some (.int .u8 z1)) (hz2 : w.cell? ⟨b, off + ((p * 7 + 3) % len).toNat, none⟩ = some (.int .u8 z2)) (hz : 0 ≤ z1 ∧ z1 ≤ 255 ∧ 0 ≤ z2 ∧ z2 ≤ 255) :
    Calls Try.prog 24 #[.pointer (some ⟨r, 0, none⟩), .int .i64 k] w (PickPost k r n w) := by
  have hnx := Lib.hid (rd_next h0 h1 hf hp0 hp1 hl hr hb)
  have hne : ((len : Int) == 0) = false := by simp; omega
  have c1 : p.tmod len = p % len := Int.tmod_eq_emod_of_nonneg hp0
  have c2 : IntKind.i64.wrap (p * 7) = p * 7 := IntWalk.i64_in _ (by omega)
  have c3 : IntKind.i64.wrap (p * 7 + 3) = p * 7 + 3 := IntWalk.i64_in _ (by omega)
  have c4 : (p * 7 + 3).tmod len = (p * 7 + 3) % len := Int.tmod_eq_emod_of_nonneg (by omega)
  have c5 : 0 ≤ p % len := Int.emod_nonneg _ (by omega)
  have c6 : p % len < len := Int.emod_lt_of_pos _ (by omega)
  have c7 : 0 ≤ (p * 7 + 3) % len := Int.emod_nonneg _ (by omega)
  have c8 : (p * 7 + 3) % len < len := Int.emod_lt_of_pos _ (by omega)
  have c9 : 0 ≤ p / len := Int.ediv_nonneg hp0 (by omega)
  have c10 : p / len ≤ 1000000000 := Int.le_trans (Int.ediv_le_self _ hp0) (by omega)
  have c11 : IntKind.i64.wrap (p / len * 53) = p / len * 53 := IntWalk.i64_in _ (by omega)
  have c12 : IntKind.i64.wrap (z1 * 131 + z2 * 1117 + p * 29 + p / len * 53) = z1 * 131 + z2 * 1117 + p * 29 + p / len * 53 := IntWalk.i64_in _ (by omega)
  have c13 : 0 ≤ z1 * 131 + z2 * 1117 + p * 29 + p / len * 53 := by omega
  have c14 := Lib.hid (xor_nn (z1 * 131 + z2 * 1117 + p * 29 + p / len * 53) ((z1 * 131 + z2 * 1117 + p * 29 + p / len * 53) / 64) c13 (by omega) (by omega) (by omega))
  go_enter Try.func24, Try.ntmps24
  go_wp2_with fail
  go_quiet (fail)
  go_wp2_with fail
  go_ret
  exact ⟨_, rfl, Int.tmod_nonneg _ c14.out, fun h => Int.tmod_lt_of_pos _ (by omega), hnx.out.drewN _, ((Keep.refl _ _ _).setR _ _).drewN _⟩

/-- PICK: a number from 0 to k-1 (0 if k is less than 1); the place goes on by one; all else is as it was. -/
theorem pick_any (k : Int) (r n : Nat) (w : World) (hrd : Rd w r n) (hn : n ≤ 1000000000) :
    Calls Try.prog 24 #[.pointer (some ⟨r, 0, none⟩), .int .i64 k] w (PickPost k r n w) := by
  by_cases hk : k < 1
  · exact pick_low k r n w hrd hn hk
  · obtain ⟨a, len, cap, p, h0, h1, hf, hp0, hp1, hl, hr, hb⟩ := hrd
    have hb' := hb
    rcases hb' with rfl | ⟨b, off, rfl, hbr, hc⟩
    · exact pick_nil k r n w a cap p h0 h1 hf hp0 hp1 hr hb hn (by omega)
    · by_cases hz : len = 0
      · subst hz
        exact pick_nil k r n w _ cap p h0 h1 hf hp0 hp1 hr hb hn (by omega)
      · by_cases hpl : p < len
        · obtain ⟨q, rfl⟩ := Int.eq_ofNat_of_zero_le hp0
          obtain ⟨z, z0, z1, hz⟩ := hc q (by omega)
          exact pick_at k r n w len cap q b off h0 h1 hf (by omega) hl hr hb hn hbr (by omega) (by omega) z hz z0 z1
        · have c5 : 0 ≤ p % len := Int.emod_nonneg _ (by omega)
          have c6 : p % len < len := Int.emod_lt_of_pos _ (by omega)
          have c7 : 0 ≤ (p * 7 + 3) % len := Int.emod_nonneg _ (by omega)
          have c8 : (p * 7 + 3) % len < len := Int.emod_lt_of_pos _ (by omega)
          obtain ⟨z1, a1, a2, hz1⟩ := hc (p % len).toNat (by omega)
          obtain ⟨z2, b1, b2, hz2⟩ := hc ((p * 7 + 3) % len).toNat (by omega)
          exact pick_past k r n w len cap p b off h0 h1 hf hp0 hp1 hl hr hb hn (by omega) hbr (by omega) (by omega) z1 z2 hz1 hz2 ⟨a1, a2, b1, b2⟩
end Go.Proofs.Ytblkpkjgmjnimaa
