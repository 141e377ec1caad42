/- Texts laid together. -/
import Derived.Test.YtbbnchodchgioaaDoorProg
import Derived.WalkKit
import Derived.WalkSpells
import Derived.Lib.Hide
import Derived.Deep.QuietTactic
import Derived.BigQuiet
import Derived.Deep.DeepCutAuto
import Derived.OwnWalk
import Derived.Test.YtbbnchodchgioaaDoorC02
import Derived.Deep.RegionWith
import Derived.Deep.RegionHeld3
import Derived.StillTailTactics
/- The reader of codes (spec.l6Rd): what it holds, and its pick. -/
namespace Go.Proofs.YtbbnchodchgioaaDoor
open Go.RowKit
set_option linter.unusedVariables false

/-- Below block B, block r aside, the world is as it was. -/
structure Keep (B r : Nat) (w w' : World) : Prop where
  os : w'.os = w.os
  tape : w'.tape = w.tape
  output : w'.output = w.output
  size : w.heap.size ≤ w'.heap.size
  block : ∀ k, k < B → k ≠ r → w'.heap[k]? = w.heap[k]?

theorem Keep.refl (B r : Nat) (w : World) : Keep B r w w := ⟨rfl, rfl, rfl, Nat.le_refl _, fun _ _ _ => rfl⟩
theorem Keep.trans {B r : Nat} {a b c : World} (h : Keep B r a b) (k : Keep B r b c) : Keep B r a c :=
  ⟨k.os.trans h.os, k.tape.trans h.tape, k.output.trans h.output, Nat.le_trans h.size k.size, fun i hi hr => (k.block i hi hr).trans (h.block i hi hr)⟩
theorem Keep.mono {B B' r : Nat} {w w' : World} (h : Keep B r w w') (hB : B' ≤ B) : Keep B' r w w' := ⟨h.os, h.tape, h.output, h.size, fun k hk => h.block k (Nat.lt_of_lt_of_le hk hB)⟩
theorem Keep.of_below {B r : Nat} {w w' : World} (h : Below B w w') : Keep B r w w' := ⟨h.os, h.tape, h.output, h.size, fun k hk _ => h.block k hk⟩
theorem Keep.below {B r : Nat} {w w' : World} (h : Keep B r w w') (hr : B ≤ r) : Below B w w' := ⟨h.os, h.tape, h.output, h.size, fun k hk => h.block k hk (by omega)⟩
theorem Keep.drewN {B r : Nat} {a w : World} (h : Keep B r a w) (n : Nat) : Keep B r a (w.drewN n) := ⟨h.os, h.tape, h.output, h.size, h.block⟩
theorem Keep.alloc {B r : Nat} {a w : World} (h : Keep B r a w) (hB : B ≤ w.heap.size) (o : Obj) : Keep B r a (w.alloc o) :=
  h.trans (Keep.of_below ((Below.refl B w).alloc hB o))
theorem Keep.setCell {B r : Nat} {a w : World} (h : Keep B r a w) {p : Addr} (hp : B ≤ p.block) (u : Value) : Keep B r a (w.setCell p u) :=
  h.trans (Keep.of_below ((Below.refl B w).setCell hp u))
theorem Keep.setR {B r : Nat} {a w : World} (h : Keep B r a w) (i : Nat) (u : Value) : Keep B r a (w.setCell ⟨r, i, none⟩ u) :=
  h.trans ⟨rfl, rfl, rfl, by simp [World.setCell], fun k _ hk => Below.heap_setCell _ _ _ _ hk⟩

/-- What a walk takes of it: cells and marks of blocks behind r that were there. -/
theorem kcell {r : Nat} {W w1 : World} (hb : Keep W.heap.size r W w1) : (∀ b o, r < b → b < W.heap.size → w1.cell? ⟨b, o, none⟩ = W.cell? ⟨b, o, none⟩) ∧ (∀ b o, r < b → b < W.heap.size → w1.frozen? ⟨b, o, none⟩ = W.frozen? ⟨b, o, none⟩) :=
  ⟨fun b o hr h => World.cell?_of_block (a := ⟨b, o, none⟩) (hb.block b h (by omega)), fun b o hr h => World.frozen?_of_block (a := ⟨b, o, none⟩) (hb.block b h (by omega))⟩

/-- The bytes of a code: none, or the cells of a block. -/
def Bytes (w : World) (r : Nat) (a : Option Addr) (len : Nat) : Prop :=
  len = 0 ∨ ∃ b off, a = some ⟨b, off, none⟩ ∧ b < r ∧ ∀ i, i < len → ∃ z : Int, 0 ≤ z ∧ z ≤ 255 ∧ w.cell? ⟨b, off + i, none⟩ = some (.int .u8 z)

/-- A reader in block r, at a place up to n. -/
def Rd (w : World) (r n : Nat) : Prop :=
  ∃ (a : Option Addr) (len cap : Nat) (p : Int), w.cell? ⟨r, 0, none⟩ = some (.slice a len cap) ∧ w.cell? ⟨r, 1, none⟩ = some (.int .i64 p) ∧ w.frozen? ⟨r, 1, none⟩ = false ∧ 0 ≤ p ∧ p ≤ n ∧ len ≤ 2000 ∧ r < w.heap.size ∧ Bytes w r a len


/-- What pick leaves. -/
def PickPost (k : Int) (r n : Nat) (w : World) (e : Ending) (w' : World) : Prop :=
  ∃ x : Int, e = .returned (.int .i64 x) ∧ 0 ≤ x ∧ (1 ≤ k → x < k) ∧ Rd w' r (n + 1) ∧ Keep w.heap.size r w w'

theorem Bytes.kept {w w' : World} {r : Nat} {a : Option Addr} {len : Nat} (h : Bytes w r a len) (hk : ∀ k, k < r → w'.heap[k]? = w.heap[k]?) : Bytes w' r a len := by
  rcases h with h | ⟨b, off, e, hb, hc⟩
  · exact .inl h
  · exact .inr ⟨b, off, e, hb, fun i hi => by
      obtain ⟨z, z0, z1, hz⟩ := hc i hi
      exact ⟨z, z0, z1, (World.cell?_of_block (a := ⟨b, off + i, none⟩) (hk b hb)).trans hz⟩⟩

/-- A reader is still the reader where nothing up to its block has turned. -/
theorem Rd.kept {w w' : World} {r n : Nat} (h : Rd w r n) (hb : Below (r + 1) w w') : Rd w' r n := by
  obtain ⟨a, len, cap, p, h0, h1, hf, hp0, hp1, hl, hr, hby⟩ := h
  exact ⟨a, len, cap, p, (hb.cell (p := ⟨r, 0, none⟩) (Nat.lt_succ_self r)).trans h0, (hb.cell (p := ⟨r, 1, none⟩) (Nat.lt_succ_self r)).trans h1, (hb.frozen (p := ⟨r, 1, none⟩) (Nat.lt_succ_self r)).trans hf, hp0, hp1, hl, Nat.lt_of_lt_of_le hr hb.size, hby.kept (fun k hk => hb.block k (by omega))⟩

theorem Rd.more {w : World} {r n m : Nat} (h : Rd w r n) (hm : n ≤ m) : Rd w r m := by
  obtain ⟨a, len, cap, p, h0, h1, hf, hp0, hp1, hl, hr, hby⟩ := h
  exact ⟨a, len, cap, p, h0, h1, hf, hp0, by omega, hl, hr, hby⟩

theorem Rd.lt {w : World} {r n : Nat} (h : Rd w r n) : r < w.heap.size := by
  obtain ⟨a, len, cap, p, h0, h1, hf, hp0, hp1, hl, hr, hby⟩ := h
  exact hr

/-- The place goes on by one. -/
theorem rd_next {w : World} {r n : Nat} {a : Option Addr} {len cap : Nat} {p : Int} (h0 : w.cell? ⟨r, 0, none⟩ = some (.slice a len cap)) (h1 : w.cell? ⟨r, 1, none⟩ = some (.int .i64 p)) (hf : w.frozen? ⟨r, 1, none⟩ = false)
    (hp0 : 0 ≤ p) (hp1 : p ≤ n) (hl : len ≤ 2000) (hr : r < w.heap.size) (hb : Bytes w r a len) : Rd (w.setCell ⟨r, 1, none⟩ (.int .i64 (p + 1))) r (n + 1) := by
  refine ⟨a, len, cap, p + 1, ?_, ?_, ?_, by omega, by omega, hl, by simpa using hr, hb.kept fun k hk => Below.heap_setCell _ _ _ _ (by simp; omega)⟩
  · go_simp
  · go_simp
  · go_simp

theorem Rd.alloc {w : World} {r n : Nat} (h : Rd w r n) (o : Obj) : Rd (w.alloc o) r n :=
  h.kept ((Below.refl _ _).alloc (Nat.succ_le_of_lt h.lt) _)
theorem Rd.setCell {w : World} {r n : Nat} (h : Rd w r n) {p : Addr} (hp : r < p.block) (u : Value) : Rd (w.setCell p u) r n :=
  h.kept ((Below.refl _ _).setCell (Nat.succ_le_of_lt hp) _)
theorem Rd.drewN {w : World} {r n : Nat} (h : Rd w r n) (m : Nat) : Rd (w.drewN m) r n :=
  h.kept ⟨rfl, rfl, rfl, Nat.le_refl _, fun _ _ => rfl⟩

theorem xor_i64 (a b : Nat) (ha : a < 9223372036854775808) (hb : b < 9223372036854775808) : bits .xor .i64 (a : Int) (b : Int) = ((a ^^^ b : Nat) : Int) := by
  have hx : a ^^^ b < 2 ^ 63 := Nat.xor_lt_two_pow (by omega) (by omega)
  have h1 : (BitVec.ofInt 64 (a : Int)).toNat = a := by
    rw [BitVec.ofInt_natCast, BitVec.toNat_ofNat]; exact Nat.mod_eq_of_lt (by omega)
  have h2 : (BitVec.ofInt 64 (b : Int)).toNat = b := by
    rw [BitVec.ofInt_natCast, BitVec.toNat_ofNat]; exact Nat.mod_eq_of_lt (by omega)
  show IntKind.i64.wrap ((BitVec.ofInt 64 (a : Int) ^^^ BitVec.ofInt 64 (b : Int)).toNat : Int) = _
  rw [BitVec.toNat_xor, h1, h2, IntKind.wrap_i64]
  omega

theorem xor_nn (x y : Int) (hx : 0 ≤ x) (hx' : x < 9223372036854775808) (hy : 0 ≤ y) (hy' : y < 9223372036854775808) : 0 ≤ bits .xor .i64 x y := by
  obtain ⟨a, rfl⟩ := Int.eq_ofNat_of_zero_le hx
  obtain ⟨b, rfl⟩ := Int.eq_ofNat_of_zero_le hy
  rw [xor_i64 a b (by omega) (by omega)]
  omega

set_option maxRecDepth 100000 in
set_option maxHeartbeats 1000000 in
theorem pick_low (k : Int) (r n : Nat) (w : World) (hrd : Rd w r n) (hn : n ≤ 1000000000) (hk : k < 1) :
    Calls Tryd.prog 64 #[.pointer (some ⟨r, 0, none⟩), .int .i64 k] w (PickPost k r n w) := by
  obtain ⟨a, len, cap, p, h0, h1, hf, hp0, hp1, hl, hr, hb⟩ := hrd
  have hnx := Lib.hid (rd_next h0 h1 hf hp0 hp1 hl hr hb)
  go_enter Tryd.func64, Tryd.ntmps64
  go_wp2_with fail
  go_ret
  exact ⟨0, rfl, Int.le_refl _, fun h => by omega, hnx.out, (Keep.refl _ _ _).setR _ _⟩

set_option maxRecDepth 100000 in
set_option maxHeartbeats 1000000 in
theorem pick_nil (k : Int) (r n : Nat) (w : World) (a : Option Addr) (cap : Nat) (p : Int) (h0 : w.cell? ⟨r, 0, none⟩ = some (.slice a 0 cap)) (h1 : w.cell? ⟨r, 1, none⟩ = some (.int .i64 p)) (hf : w.frozen? ⟨r, 1, none⟩ = false)
    (hp0 : 0 ≤ p) (hp1 : p ≤ n) (hr : r < w.heap.size) (hb : Bytes w r a 0) (hn : n ≤ 1000000000) (hk : 1 ≤ k) :
    Calls Tryd.prog 64 #[.pointer (some ⟨r, 0, none⟩), .int .i64 k] w (PickPost k r n w) := by
  have hnx := Lib.hid (rd_next h0 h1 hf hp0 hp1 (by omega) hr hb)
  go_enter Tryd.func64, Tryd.ntmps64
  go_wp2_with fail
  go_ret
  exact ⟨0, rfl, Int.le_refl _, fun h => by omega, hnx.out, (Keep.refl _ _ _).setR _ _⟩

set_option maxRecDepth 100000 in
set_option maxHeartbeats 1000000 in
theorem pick_at (k : Int) (r n : Nat) (w : World) (len cap : Nat) (p b off : Nat) (h0 : w.cell? ⟨r, 0, none⟩ = some (.slice (some ⟨b, off, none⟩) len cap)) (h1 : w.cell? ⟨r, 1, none⟩ = some (.int .i64 p)) (hf : w.frozen? ⟨r, 1, none⟩ = false)
    (hp1 : p ≤ n) (hl : len ≤ 2000) (hr : r < w.heap.size) (hb : Bytes w r (some ⟨b, off, none⟩) len) (hn : n ≤ 1000000000) (hbr : b < r) (hk : 1 ≤ k) (hpl : p < len) (z : Int) (hz : w.cell? ⟨b, off + p, none⟩ = some (.int .u8 z)) (hz0 : 0 ≤ z) (hz1 : z ≤ 255) :
    Calls Tryd.prog 64 #[.pointer (some ⟨r, 0, none⟩), .int .i64 k] w (PickPost k r n w) := by
  have hnx := Lib.hid (rd_next (n := n) h0 h1 hf (by omega) (by omega) hl hr hb)
  have hne : ((len : Int) == 0) = false := by simp; omega
  go_enter Tryd.func64, Tryd.ntmps64
  go_wp2_with fail
  go_ret
  exact ⟨z % k, rfl, Int.emod_nonneg _ (by omega), fun h => Int.emod_lt_of_pos _ (by omega), hnx.out, (Keep.refl _ _ _).setR _ _⟩

set_option maxRecDepth 100000 in
set_option maxHeartbeats 1000000 in
theorem pick_past (k : Int) (r n : Nat) (w : World) (len cap : Nat) (p : Int) (b off : Nat) (h0 : w.cell? ⟨r, 0, none⟩ = some (.slice (some ⟨b, off, none⟩) len cap)) (h1 : w.cell? ⟨r, 1, none⟩ = some (.int .i64 p)) (hf : w.frozen? ⟨r, 1, none⟩ = false)
    (hp0 : 0 ≤ p) (hp1 : p ≤ n) (hl : len ≤ 2000) (hr : r < w.heap.size) (hb : Bytes w r (some ⟨b, off, none⟩) len) (hn : n ≤ 1000000000) (hl0 : 0 < len) (hbr : b < r) (hk : 1 ≤ k) (hpl : len ≤ p) (z1 z2 : Int) (hz1 : w.cell? ⟨b, off + (p % len).toNat, none⟩ = some (.int .u8 z1)) (hz2 : w.cell? ⟨b, off + ((p * 7 + 3) % len).toNat, none⟩ = some (.int .u8 z2)) (hz : 0 ≤ z1 ∧ z1 ≤ 255 ∧ 0 ≤ z2 ∧ z2 ≤ 255) :
    Calls Tryd.prog 64 #[.pointer (some ⟨r, 0, none⟩), .int .i64 k] w (PickPost k r n w) := by
  have hnx := Lib.hid (rd_next h0 h1 hf hp0 hp1 hl hr hb)
  have hne : ((len : Int) == 0) = false := by simp; omega
  have c1 : p.tmod len = p % len := Int.tmod_eq_emod_of_nonneg hp0
  have c2 : IntKind.i64.wrap (p * 7) = p * 7 := IntWalk.i64_in _ (by omega)
  have c3 : IntKind.i64.wrap (p * 7 + 3) = p * 7 + 3 := IntWalk.i64_in _ (by omega)
  have c4 : (p * 7 + 3).tmod len = (p * 7 + 3) % len := Int.tmod_eq_emod_of_nonneg (by omega)
  have c5 : 0 ≤ p % len := Int.emod_nonneg _ (by omega)
  have c6 : p % len < len := Int.emod_lt_of_pos _ (by omega)
  have c7 : 0 ≤ (p * 7 + 3) % len := Int.emod_nonneg _ (by omega)
  have c8 : (p * 7 + 3) % len < len := Int.emod_lt_of_pos _ (by omega)
  have c9 : 0 ≤ p / len := Int.ediv_nonneg hp0 (by omega)
  have c10 : p / len ≤ 1000000000 := Int.le_trans (Int.ediv_le_self _ hp0) (by omega)
  have c11 : IntKind.i64.wrap (p / len * 53) = p / len * 53 := IntWalk.i64_in _ (by omega)
  have c12 : IntKind.i64.wrap (z1 * 131 + z2 * 1117 + p * 29 + p / len * 53) = z1 * 131 + z2 * 1117 + p * 29 + p / len * 53 := IntWalk.i64_in _ (by omega)
  have c13 : 0 ≤ z1 * 131 + z2 * 1117 + p * 29 + p / len * 53 := by omega
  have c14 := Lib.hid (xor_nn (z1 * 131 + z2 * 1117 + p * 29 + p / len * 53) ((z1 * 131 + z2 * 1117 + p * 29 + p / len * 53) / 64) c13 (by omega) (by omega) (by omega))
  go_enter Tryd.func64, Tryd.ntmps64
  go_wp2_with fail
  go_quiet (fail)
  go_wp2_with fail
  go_ret
  exact ⟨_, rfl, Int.tmod_nonneg _ c14.out, fun h => Int.tmod_lt_of_pos _ (by omega), hnx.out.drewN _, ((Keep.refl _ _ _).setR _ _).drewN _⟩

/-- PICK: a number from 0 to k-1 (0 if k is less than 1); the place goes on by one; all else is as it was. -/
theorem pick_any (k : Int) (r n : Nat) (w : World) (hrd : Rd w r n) (hn : n ≤ 1000000000) :
    Calls Tryd.prog 64 #[.pointer (some ⟨r, 0, none⟩), .int .i64 k] w (PickPost k r n w) := by
  by_cases hk : k < 1
  · exact pick_low k r n w hrd hn hk
  · obtain ⟨a, len, cap, p, h0, h1, hf, hp0, hp1, hl, hr, hb⟩ := hrd
    have hb' := hb
    rcases hb' with rfl | ⟨b, off, rfl, hbr, hc⟩
    · exact pick_nil k r n w a cap p h0 h1 hf hp0 hp1 hr hb hn (by omega)
    · by_cases hz : len = 0
      · subst hz
        exact pick_nil k r n w _ cap p h0 h1 hf hp0 hp1 hr hb hn (by omega)
      · by_cases hpl : p < len
        · obtain ⟨q, rfl⟩ := Int.eq_ofNat_of_zero_le hp0
          obtain ⟨z, z0, z1, hz⟩ := hc q (by omega)
          exact pick_at k r n w len cap q b off h0 h1 hf (by omega) hl hr hb hn hbr (by omega) (by omega) z hz z0 z1
        · have c5 : 0 ≤ p % len := Int.emod_nonneg _ (by omega)
          have c6 : p % len < len := Int.emod_lt_of_pos _ (by omega)
          have c7 : 0 ≤ (p * 7 + 3) % len := Int.emod_nonneg _ (by omega)
          have c8 : (p * 7 + 3) % len < len := Int.emod_lt_of_pos _ (by omega)
          obtain ⟨z1, a1, a2, hz1⟩ := hc (p % len).toNat (by omega)
          obtain ⟨z2, b1, b2, hz2⟩ := hc ((p * 7 + 3) % len).toNat (by omega)
          exact pick_past k r n w len cap p b off h0 h1 hf hp0 hp1 hl hr hb hn (by omega) hbr (by omega) (by omega) z1 z2 hz1 hz2 ⟨a1, a2, b1, b2⟩
end Go.Proofs.YtbbnchodchgioaaDoor

/- Small facts of blocks; l6In. -/
namespace Go.Proofs.YtbbnchodchgioaaDoor
open Go.RowKit
set_option linter.unusedVariables false

/-- Cells and marks of elder blocks, behind a call that only makes memory. -/
theorem bcell {W w1 : World} (hb : Below W.heap.size W w1) : (∀ b o, b < W.heap.size → w1.cell? ⟨b, o, none⟩ = W.cell? ⟨b, o, none⟩) ∧ (∀ b o, b < W.heap.size → w1.frozen? ⟨b, o, none⟩ = W.frozen? ⟨b, o, none⟩) :=
  ⟨fun b o h => hb.cell (p := ⟨b, o, none⟩) h, fun b o h => hb.frozen (p := ⟨b, o, none⟩) h⟩

/-- A block of three cells, known whole. -/
theorem blk3 {w : World} {b : Nat} {x y z : Value} {t : TypeId} (h : w.heap[b]? = some (.cells #[x, y, z] t (0, 0))) :
    w.cell? ⟨b, 0, none⟩ = some x ∧ w.cell? ⟨b, 1, none⟩ = some y ∧ w.cell? ⟨b, 2, none⟩ = some z ∧ w.frozen? ⟨b, 0, none⟩ = false ∧ w.frozen? ⟨b, 1, none⟩ = false ∧ w.frozen? ⟨b, 2, none⟩ = false := by
  simp [World.cell?, World.frozen?, h]

/-- .. behind a store. -/
theorem blk3_set {w : World} {b : Nat} {x y z : Value} {t : TypeId} (h : w.heap[b]? = some (.cells #[x, y, z] t (0, 0))) (u : Value) :
    (w.setCell ⟨b, 0, none⟩ u).heap[b]? = some (.cells #[u, y, z] t (0, 0)) ∧ (w.setCell ⟨b, 1, none⟩ u).heap[b]? = some (.cells #[x, u, z] t (0, 0)) ∧ (w.setCell ⟨b, 2, none⟩ u).heap[b]? = some (.cells #[x, y, u] t (0, 0)) := by
  simp [World.setCell, Array.getElem?_modify, h]

theorem heap_alloc_at (w : World) (o : Obj) (n : Nat) (h : n = w.heap.size) : (w.alloc o).heap[n]? = some o := by subst h; exact heap_alloc_new w o

def inB (n lo hi : Int) : Bool := decide (lo ≤ n ∧ n ≤ hi)

theorem inB_t {n lo hi : Int} (h1 : lo ≤ n) (h2 : n ≤ hi) : inB n lo hi = true := decide_eq_true ⟨h1, h2⟩

theorem inB_f1 {n lo hi : Int} (h1 : ¬ lo ≤ n) : inB n lo hi = false := decide_eq_false (fun h => h1 h.1)

theorem inB_f2 {n lo hi : Int} (h2 : ¬ n ≤ hi) : inB n lo hi = false := decide_eq_false (fun h => h2 h.2)

theorem in_any (n lo hi : Int) (w : World) :
    Calls Tryd.prog 45 #[.int .i64 n, .int .i64 lo, .int .i64 hi] w fun e w' => e = .returned (.bool (inB n lo hi)) ∧ w = w' := by
  by_cases h1 : lo ≤ n
  · by_cases h2 : n ≤ hi
    · rw [inB_t h1 h2]
      go_enter Tryd.func45, Tryd.ntmps45
      go_wp2
      go_ret
      exact ⟨rfl, rfl⟩
    · rw [inB_f2 h2]
      go_enter Tryd.func45, Tryd.ntmps45
      go_wp2
      go_ret
      exact ⟨rfl, rfl⟩
  · rw [inB_f1 h1]
    go_enter Tryd.func45, Tryd.ntmps45
    go_wp2
    go_ret
    exact ⟨rfl, rfl⟩

theorem ret_bool {a b : Bool} (h : a = b) : Ending.returned (.bool a) = .returned (.bool b) := by rw [h]
/-- A block of two cells, known whole. -/
theorem blk2 {w : World} {b : Nat} {x y : Value} {t : TypeId} (h : w.heap[b]? = some (.cells #[x, y] t (0, 0))) :
    w.cell? ⟨b, 0, none⟩ = some x ∧ w.cell? ⟨b, 1, none⟩ = some y ∧ w.frozen? ⟨b, 0, none⟩ = false ∧ w.frozen? ⟨b, 1, none⟩ = false := by
  simp [World.cell?, World.frozen?, h]
end Go.Proofs.YtbbnchodchgioaaDoor

/- A reader is opened; codes that came in. -/
namespace Go.Proofs.YtbbnchodchgioaaDoor
open Go.RowKit
set_option linter.unusedVariables false

/-- A code that came in: its bytes lie in old memory. -/
def CodeIn (w : World) (a : Option Addr) (len cap : Nat) : Prop := len ≤ cap ∧ Bytes w w.heap.size a len

/-- What l6Open leaves. -/
def OpenPost (w : World) (e : Ending) (w' : World) : Prop :=
  ∃ r : Nat, e = .returned (.pointer (some ⟨r, 0, none⟩)) ∧ w.heap.size ≤ r ∧ Rd w' r 0 ∧ Below w.heap.size w w'

theorem rd_new (w : World) (a : Option Addr) (len cap : Nat) (hl : len ≤ 2000) (hb : Bytes w w.heap.size a len) (t : TypeId) : Rd (w.alloc (.cells #[.slice a len cap, .int .i64 0] t)) w.heap.size 0 :=
  ⟨a, len, cap, 0, by go_simp, by go_simp, by go_simp, Int.le_refl _, by omega, hl, by simp, hb.kept (fun k hk => Below.heap_alloc _ _ _ hk)⟩

theorem open_any (a : Option Addr) (len cap : Nat) (w : World) (hc : CodeIn w a len cap) (hcap : cap ≤ maxLen) :
    Calls Tryd.prog 40 #[.slice a len cap] w (OpenPost w) := by
  unfold maxLen at hcap
  obtain ⟨hlc, hb⟩ := hc
  by_cases hl : 2000 < len
  · have hb2 : Bytes w w.heap.size a 2000 := by
      rcases hb with rfl | ⟨b, off, e, hb, hc⟩
      · omega
      · exact .inr ⟨b, off, e, hb, fun i hi => hc i (by omega)⟩
    obtain ⟨b, off, rfl, _⟩ : ∃ b off, a = some ⟨b, off, none⟩ ∧ True := by
      rcases hb with rfl | ⟨b, off, e, hb, hc⟩
      · omega
      · exact ⟨b, off, e, trivial⟩
    have hn := Lib.hid (rd_new w (some ⟨b, off, none⟩) 2000 cap (Nat.le_refl _) hb2 85)
    clear hb hb2
    go_enter Tryd.func40, Tryd.ntmps40
    go_wp2_with fail
    go_ret
    exact ⟨_, rfl, Nat.le_refl _, hn.out, (Below.refl _ _).alloc (Nat.le_refl _) _⟩
  · have hn := Lib.hid (rd_new w a len cap (by omega) hb 85)
    clear hb
    go_enter Tryd.func40, Tryd.ntmps40
    go_wp2_with fail
    go_ret
    exact ⟨_, rfl, Nat.le_refl _, hn.out, (Below.refl _ _).alloc (Nat.le_refl _) _⟩

theorem Bytes.up {w w' : World} {r r' : Nat} {a : Option Addr} {len : Nat} (h : Bytes w r a len) (hr : r ≤ r') (hb : Below r w w') : Bytes w' r' a len := by
  rcases h.kept (w' := w') (fun k hk => hb.block k hk) with h | ⟨b, off, e, hb, hc⟩
  · exact .inl h
  · exact .inr ⟨b, off, e, by omega, hc⟩

/-- A code is a code still where elder memory is as it was. -/
theorem CodeIn.up {w w' : World} {a : Option Addr} {len cap : Nat} (h : CodeIn w a len cap) (hb : Below w.heap.size w w') : CodeIn w' a len cap :=
  ⟨h.1, h.2.up hb.size hb⟩
theorem row_keep {w w' : World} {r base n size : Nat} {t : TypeId} {v : Value} {xs : List Value} (h : w.ownsRow base t size v n xs) (hk : Keep w.heap.size r w w') (hr : r < base) : w'.ownsRow base t size v n xs :=
  h.kept (row := some r) ⟨hk.os, hk.tape, hk.output, hk.size, fun k h1 h2 => hk.block k h1 (fun e => h2 (by rw [e]))⟩ (by
    cases hv : v.ownBlock with
    | none => exact .inl rfl
    | some k =>
      have := (h.lt k hv).1
      exact .inr (by intro e; injection e with e; omega))
end Go.Proofs.YtbbnchodchgioaaDoor

/- Small facts of slices and worlds. -/
namespace Go.Proofs.YtbbnchodchgioaaDoor
open Go.RowKit
set_option linter.unusedVariables false

theorem lt_of_heap {w : World} {b : Nat} {o : Obj} (h : w.heap[b]? = some o) : b < w.heap.size := by
  have := Array.getElem?_eq_some_iff.1 h
  exact this.1

theorem cell_of_cells {w : World} {b i : Nat} {cur : Array Value} {t : TypeId} (h : w.heap[b]? = some (.cells cur t (0, 0))) : w.cell? ⟨b, i, none⟩ = cur[i]? := by
  simp [World.cell?, h]

theorem bstep {w w0 w1 : World} (D : Below w.heap.size w w0) (h : Below w0.heap.size w0 w1) : Below w.heap.size w w1 := D.trans (h.mono D.size)

theorem bblk {w0 w1 : World} {b : Nat} {o : Obj} (h : Below w0.heap.size w0 w1) (s : b + 1 ≤ w0.heap.size) (A : w0.heap[b]? = some o) : w1.heap[b]? = some o := (h.block b s).trans A

theorem bdrewN {B : Nat} {a w : World} (h : Below B a w) (n : Nat) : Below B a (w.drewN n) := ⟨h.os, h.tape, h.output, h.size, h.block⟩

theorem up_to {P : Nat → Prop} {k : Nat} (h : ∀ j, j < k → P j) (hk : P k) : ∀ j, j < k + 1 → P j := fun j hj => by
  rcases Nat.lt_or_ge j k with h' | h'
  · exact h j h'
  · obtain rfl : j = k := by omega
    exact hk
end Go.Proofs.YtbbnchodchgioaaDoor

/- Slices of ids: read, owned. -/
namespace Go.Proofs.YtbbnchodchgioaaDoor
open Go.RowKit
set_option linter.unusedVariables false

def idv (c : Pid) : List Value := [.int .i64 c.1, .int .i64 c.2]
/-- Ids as cells. -/
def flatP : List Pid → List Value
  | [] => []
  | c :: r => idv c ++ flatP r

theorem flatP_len : ∀ C : List Pid, (flatP C).length = C.length * 2
  | [] => rfl
  | c :: r => by simp [flatP, idv, flatP_len r]; omega
theorem flatP_app : ∀ (A B : List Pid), flatP (A ++ B) = flatP A ++ flatP B
  | [], B => rfl
  | c :: r, B => by simp [flatP, flatP_app r B]
theorem flatP_get : ∀ (C : List Pid) (i : Nat), i < C.length → (flatP C)[i * 2]? = some (.int .i64 (C.getD i nop).1) ∧ (flatP C)[i * 2 + 1]? = some (.int .i64 (C.getD i nop).2)
  | [], i, h => absurd h (by simp)
  | c :: r, 0, h => by simp [flatP, idv]
  | c :: r, i + 1, h => by
    have ih := flatP_get r i (by simpa using h)
    have e : (i + 1) * 2 = i * 2 + 2 := by omega
    have g : ∀ n, (flatP (c :: r))[n + 2]? = (flatP r)[n]? := fun n => by simp [flatP, idv]
    rw [e, g, show i * 2 + 2 + 1 = (i * 2 + 1) + 2 by omega, g]
    simpa using ih
theorem flatP_one (C : List Pid) : ∀ u ∈ flatP C, u.oneCell' = true := by
  induction C with
  | nil => intro u hu; simp [flatP] at hu
  | cons c r ih =>
    intro u hu
    rw [flatP, List.mem_append] at hu
    rcases hu with hu | hu
    · simp [idv] at hu; rcases hu with rfl | rfl <;> rfl
    · exact ih u hu

/-- A slice of ids, readable. -/
def Ids (w : World) (v : Value) (C : List Pid) : Prop :=
  ∃ a cap, v = .slice a C.length cap ∧ C.length ≤ cap ∧ C.length ≤ 2000000 ∧ (C.length = 0 ∨ ∃ b off, a = some ⟨b, off, none⟩ ∧ b < w.heap.size ∧ ∀ i, i < C.length →
    w.cell? ⟨b, off + i * 2, none⟩ = some (.int .i64 (C.getD i nop).1) ∧ w.cell? ⟨b, off + i * 2 + 1, none⟩ = some (.int .i64 (C.getD i nop).2))

/-- .. in a block of its own, from its head. -/
def OwnP (w : World) (b : Nat) (v : Value) (C : List Pid) : Prop :=
  ∃ cap cur t, v = .slice (some ⟨b, 0, none⟩) C.length cap ∧ w.heap[b]? = some (.cells cur t (0, 0)) ∧ C.length ≤ cap ∧ C.length ≤ 2000000 ∧ ∀ i, i < C.length →
    cur[i * 2]? = some (.int .i64 (C.getD i nop).1) ∧ cur[i * 2 + 1]? = some (.int .i64 (C.getD i nop).2)

theorem OwnP.lt {w : World} {b : Nat} {v : Value} {C : List Pid} (h : OwnP w b v C) : b < w.heap.size := by
  obtain ⟨cap, cur, t, rfl, hb, _⟩ := h
  exact lt_of_heap hb
theorem OwnP.same {w w' : World} {b : Nat} {v : Value} {C : List Pid} (h : OwnP w b v C) (hb : w'.heap[b]? = w.heap[b]?) : OwnP w' b v C := by
  obtain ⟨cap, cur, t, e, h1, h2, h3, h4⟩ := h
  exact ⟨cap, cur, t, e, hb.trans h1, h2, h3, h4⟩
theorem OwnP.up {w w' : World} {b B : Nat} {v : Value} {C : List Pid} (h : OwnP w b v C) (hb : Below B w w') (hB : b < B) : OwnP w' b v C := h.same (hb.block b hB)
theorem OwnP.read {w : World} {b : Nat} {v : Value} {C : List Pid} (h : OwnP w b v C) : Ids w v C := by
  obtain ⟨cap, cur, t, rfl, h1, h2, h3, h4⟩ := h
  refine ⟨_, cap, rfl, h2, h3, ?_⟩
  by_cases hz : C.length = 0
  · exact .inl hz
  · refine .inr ⟨b, 0, rfl, lt_of_heap h1, fun i hi => ?_⟩
    rw [Nat.zero_add, cell_of_cells h1, cell_of_cells h1]
    exact h4 i hi
theorem Ids.up {w w' : World} {B : Nat} {v : Value} {C : List Pid} (h : Ids w v C) (hb : Below B w w') (hB : w.heap.size ≤ B) : Ids w' v C := by
  obtain ⟨a, cap, rfl, h1, h2, h3⟩ := h
  refine ⟨a, cap, rfl, h1, h2, ?_⟩
  rcases h3 with h3 | ⟨b, off, rfl, h4, h5⟩
  · exact .inl h3
  · have hc : ∀ o, w'.cell? ⟨b, o, none⟩ = w.cell? ⟨b, o, none⟩ := fun o => hb.cell (p := ⟨b, o, none⟩) (Nat.lt_of_lt_of_le h4 hB)
    exact .inr ⟨b, off, rfl, Nat.lt_of_lt_of_le h4 hb.size, fun i hi => by rw [hc, hc]; exact h5 i hi⟩
theorem OwnP.of_row {w : World} {base : Nat} {e : TypeId} {v : Value} {C : List Pid} {n : Nat} (h : w.ownsRow base e 2 v n (flatP C)) (hn : n = C.length) (hl : C.length ≤ 2000000) (hv : v ≠ .slice none 0 0) : ∃ b, base ≤ b ∧ OwnP w b v C := by
  subst hn
  rcases h.2 with ⟨rfl, _⟩ | ⟨g, cap, cur, rfl, h1, h2, h3, h4, h5, h6⟩
  · exact absurd rfl hv
  · refine ⟨g, h1, cap, cur, e, rfl, h2, h3, hl, fun i hi => ?_⟩
    have hk : ∀ j, j < C.length * 2 → cur[j]? = (flatP C)[j]? := fun j hj => by
      rw [← h6, List.getElem?_take, if_pos hj]; simp
    rw [hk _ (by omega), hk _ (by omega)]
    exact flatP_get C i hi
theorem OwnP.shape {w : World} {b : Nat} {u : Value} {C : List Pid} (h : OwnP w b u C) : ∃ cap, u = .slice (some ⟨b, 0, none⟩) C.length cap ∧ C.length ≤ cap := by
  obtain ⟨cap, cur, t, e, h1, h2, _⟩ := h
  exact ⟨cap, e, h2⟩
theorem OwnP.cell {w : World} {b : Nat} {u : Value} {C : List Pid} (h : OwnP w b u C) (i : Nat) (hi : i < C.length) :
    w.cell? ⟨b, i * 2, none⟩ = some (.int .i64 (C.getD i nop).1) ∧ w.cell? ⟨b, i * 2 + 1, none⟩ = some (.int .i64 (C.getD i nop).2) := by
  obtain ⟨cap, cur, t, rfl, h1, h2, h3, h4⟩ := h
  rw [cell_of_cells h1, cell_of_cells h1]
  exact h4 i hi
theorem OwnP.free {w : World} {b : Nat} {u : Value} {C : List Pid} (h : OwnP w b u C) (m : Nat) : w.frozen? ⟨b, m, none⟩ = false := by
  obtain ⟨cap, cur, t, e, h1, _⟩ := h
  simp [World.frozen?, h1]

/-- An id stored at place k. -/
theorem OwnP.set {w : World} {b : Nat} {u : Value} {C : List Pid} (h : OwnP w b u C) (k : Nat) (hk : k < C.length) (c : Pid) :
    OwnP ((w.setCell ⟨b, k * 2, none⟩ (.int .i64 c.1)).setCell ⟨b, k * 2 + 1, none⟩ (.int .i64 c.2)) b u (C.set k c) := by
  obtain ⟨cap, cur, t, rfl, h1, h2, h3, h4⟩ := h
  have e1 := heap_setCell_same w b (k * 2) cur t (.int .i64 c.1) h1
  have e2 := heap_setCell_same _ b (k * 2 + 1) _ t (.int .i64 c.2) e1
  have hs : k * 2 + 1 < cur.size := by
    have := (h4 k hk).2
    rcases Nat.lt_or_ge (k * 2 + 1) cur.size with h | h
    · exact h
    · rw [Array.getElem?_eq_none h] at this; exact absurd this (by simp)
  refine ⟨cap, _, t, by simp, e2, by simpa using h2, by simpa using h3, fun i hi => ?_⟩
  rw [List.length_set] at hi
  by_cases e : i = k
  · subst e
    simp [hs, show i * 2 < cur.size by omega, List.getD_eq_getElem?_getD, List.getElem?_set_self hk]
  · have hg : (C.set k c).getD i nop = C.getD i nop := by
      rw [List.getD_eq_getElem?_getD, List.getElem?_set_ne (fun x => e x.symm), ← List.getD_eq_getElem?_getD]
    rw [hg]
    have := h4 i hi
    simp only [Array.getElem?_setIfInBounds]
    rw [if_neg (by omega), if_neg (by omega), if_neg (by omega), if_neg (by omega)]
    exact this
end Go.Proofs.YtbbnchodchgioaaDoor

/- The model's l3Has. -/
namespace Go.Proofs.YtbbnchodchgioaaDoor
open Go.RowKit
set_option linter.unusedVariables false

theorem has_t {L : List Pid} {k : Nat} {a : Pid} (hk : k < L.length) (h : L.getD k nop = a) : hasP L a = true := by
  unfold hasP
  rw [decide_eq_true_iff, ← h, List.getD_eq_getElem?_getD, List.getElem?_eq_getElem hk]
  exact List.getElem_mem _
theorem has_f {L : List Pid} {a : Pid} (h : ∀ j, j < L.length → ¬ L.getD j nop = a) : hasP L a = false := by
  unfold hasP
  rw [decide_eq_false_iff_not]
  intro hm
  obtain ⟨i, hi, e⟩ := List.getElem_of_mem hm
  refine h i hi ?_
  rw [List.getD_eq_getElem?_getD, List.getElem?_eq_getElem hi]
  exact e
theorem pid_eq {c : Pid} {x y : Int} : c = (x, y) ↔ c.1 = x ∧ c.2 = y := by
  obtain ⟨p, q⟩ := c
  simp

set_option maxRecDepth 100000 in
set_option maxHeartbeats 2000000 in
theorem shas_at (b off ca : Nat) (L : List Pid) (x y : Int) (w : World) (hb : b < w.heap.size) (hm : L.length ≤ 2000000) (h : ∀ i, i < L.length → w.cell? ⟨b, off + i * 2, none⟩ = some (.int .i64 (L.getD i nop).1) ∧ w.cell? ⟨b, off + i * 2 + 1, none⟩ = some (.int .i64 (L.getD i nop).2)) :
    Calls Tryd.prog 47 #[.slice (some ⟨b, off, none⟩) L.length ca, .agg #[.int .i64 x, .int .i64 y]] w fun e w' => e = .returned (.bool (hasP L (x, y))) ∧ Below w.heap.size w w' := by
  have h := Lib.hid h
  obtain ⟨n, hn⟩ : ∃ n, Hid (L.length = n) := ⟨_, Lib.hid rfl⟩
  obtain ⟨q, hq⟩ : ∃ q, Hid (hasP L (x, y) = q) := ⟨_, Lib.hid rfl⟩
  rw [hn.out] at hm ⊢
  rw [hq.out]
  go_enter Tryd.func47, Tryd.ntmps47
  go_wp2_with fail
  go_loopw [5] (fun i wr => ∃ k : Nat, k ≤ n ∧ i = .int .i64 k ∧ Hid (∀ j, j < k → ¬ L.getD j nop = (x, y)) ∧ wr.cell? ⟨w.heap.size, 0, none⟩ = some (.int .i64 x) ∧ wr.cell? ⟨w.heap.size, 1, none⟩ = some (.int .i64 y) ∧ Below w.heap.size w wr) (fun i _ => n - (intOf i).toNat)
  case atStart => exact ⟨0, Nat.zero_le _, rfl, Lib.hid (fun j hj => absurd hj (Nat.not_lt_zero _)), by go_simp, by go_simp, (Below.refl _ _).alloc (Nat.le_refl _) _⟩
  case round =>
    obtain ⟨k, hk, rfl, hno, x0, x1, hnx⟩ := hrel
    by_cases hlt : k < n
    · obtain ⟨h0, h1⟩ := h.out k (by rw [hn.out]; exact hlt)
      have q0 := (hnx.cell (p := ⟨b, off + k * 2, none⟩) hb).trans h0
      have q1 := (hnx.cell (p := ⟨b, off + k * 2 + 1, none⟩) hb).trans h1
      clear h0 h1
      obtain ⟨c, hc⟩ : ∃ c, Hid (L.getD k nop = c) := ⟨_, Lib.hid rfl⟩
      rw [hc.out] at q0 q1
      obtain ⟨p, r⟩ := c
      dsimp only at q0 q1
      have hnx := Lib.hid hnx
      clear h
      by_cases e1 : p = x
      · subst e1
        by_cases e2 : r = y
        · subst e2
          have hqt := hq.out
          rw [has_t (by rw [hn.out]; exact hlt) hc.out] at hqt
          subst hqt
          go_wp2_with fail
          go_quiet (fail)
          go_wp2_with fail
          go_ret
          exact ⟨rfl, bdrewN hnx.out _⟩
        · have R := Lib.hid (up_to hno.out (show ¬ L.getD k nop = (p, y) by rw [hc.out]; intro e; exact e2 (congrArg Prod.snd e)))
          go_wp2_with fail
          go_quiet (fail)
          go_wp2_with fail
          go_roundw
          case rel => exact ⟨k + 1, by omega, by go_num, R, by go_simp, by go_simp, bdrewN hnx.out _⟩
          case measure => simp [intOf]; omega
      · have R := Lib.hid (up_to hno.out (show ¬ L.getD k nop = (x, y) by rw [hc.out]; intro e; exact e1 (congrArg Prod.fst e)))
        go_wp2_with fail
        go_quiet (fail)
        go_wp2_with fail
        go_roundw
        case rel => exact ⟨k + 1, by omega, by go_num, R, by go_simp, by go_simp, bdrewN hnx.out _⟩
        case measure => simp [intOf]; omega
    · obtain rfl : k = n := by omega
      have hqf := hq.out
      rw [has_f (fun j hj => hno.out j (by rw [← hn.out]; exact hj))] at hqf
      subst hqf
      have hnx := Lib.hid hnx
      clear h
      go_wp2_with fail
      go_ret
      exact ⟨rfl, hnx.out⟩

theorem shas_nil (a : Option Addr) (ca : Nat) (x y : Int) (w : World) :
    Calls Tryd.prog 47 #[.slice a 0 ca, .agg #[.int .i64 x, .int .i64 y]] w fun e w' => e = .returned (.bool (hasP [] (x, y))) ∧ Below w.heap.size w w' := by
  rw [show hasP [] (x, y) = false from rfl]
  go_enter Tryd.func47, Tryd.ntmps47
  go_wp2_with fail
  refine wp_loop_rounds 1 ?_
  rw [rounds_succ]
  go_wp2_with fail
  go_ret
  exact ⟨rfl, (Below.refl _ _).alloc (Nat.le_refl _) _⟩

theorem shas_any (u : Value) (L : List Pid) (x y : Int) (w : World) (h : Ids w u L) :
    Calls Tryd.prog 47 #[u, .agg #[.int .i64 x, .int .i64 y]] w fun e w' => e = .returned (.bool (hasP L (x, y))) ∧ Below w.heap.size w w' := by
  obtain ⟨a, cap, rfl, h1, h2, h3⟩ := h
  rcases h3 with h3 | ⟨b, off, rfl, h4, h5⟩
  · obtain rfl : L = [] := List.length_eq_zero_iff.1 h3
    exact shas_nil a cap x y w
  · exact shas_at b off cap L x y w h4 h2 h5
end Go.Proofs.YtbbnchodchgioaaDoor

/- Contracts of the functions on ids: valid, compare, IdBefore, of the program and of the model. -/
namespace Go.Proofs.YtbbnchodchgioaaDoor
open Go.RowKit
set_option linter.unusedVariables false

theorem idB_t {r n : Int} (h1 : 0 ≤ r) (h2 : r ≤ 4) (h3 : 1 ≤ n) (h4 : n ≤ 50) : idB r n = true := by simp [idB]; omega
theorem idB_f {r n : Int} (h : ¬ (0 ≤ r ∧ r ≤ 4 ∧ 1 ≤ n ∧ n ≤ 50)) : idB r n = false := by simp [idB]; omega
theorem idB_of {r n : Int} (h : idB r n = true) : 0 ≤ r ∧ r ≤ 4 ∧ 1 ≤ n ∧ n ≤ 50 := by simpa [idB] using h
theorem idB_no {r n : Int} (h : idB r n = false) : (¬ 0 ≤ r) ∨ (0 ≤ r ∧ ¬ r ≤ 4) ∨ (0 ≤ r ∧ r ≤ 4 ∧ ¬ 1 ≤ n) ∨ (0 ≤ r ∧ r ≤ 4 ∧ 1 ≤ n ∧ ¬ n ≤ 50) := by simp [idB] at h; omega

/-- valid of the program. -/
theorem ivid_any (r n : Int) (w : World) :
    Calls Tryd.prog 58 #[.agg #[.int .i64 r, .int .i64 n]] w fun e w' => e = .returned (.bool (idB r n)) ∧ Below w.heap.size w w' := by
  by_cases h : idB r n = true
  · obtain ⟨h1, h2, h3, h4⟩ := idB_of h
    rw [h]; clear h
    go_enter Tryd.func58, Tryd.ntmps58
    go_wp2_with fail
    go_ret
    exact ⟨rfl, (Below.refl _ _).alloc (Nat.le_refl _) _⟩
  · have h : idB r n = false := by simpa using h
    rw [h]
    rcases idB_no h with h1 | ⟨h1, h2⟩ | ⟨h1, h2, h3⟩ | ⟨h1, h2, h3, h4⟩
    all_goals
      clear h
      go_enter Tryd.func58, Tryd.ntmps58
      go_wp2_with fail
      go_ret
      exact ⟨rfl, (Below.refl _ _).alloc (Nat.le_refl _) _⟩

/-- IdValid of the model. -/
theorem svid_any (r n : Int) (w : World) :
    Calls Tryd.prog 44 #[.agg #[.int .i64 r, .int .i64 n]] w fun e w' => e = .returned (.bool (idB r n)) ∧ Below w.heap.size w w' := by
  have e1 : idB r n = (inB r 0 4 && inB n 1 50) := by
    rw [Bool.eq_iff_iff]; simp [idB, inB]; omega
  rw [e1]
  have s1 := in_any r 0 4
  have s2 := in_any n 1 50
  generalize inB r 0 4 = p at s1 ⊢
  generalize inB n 1 50 = q at s2 ⊢
  clear e1
  cases p
  · go_enter Tryd.func44, Tryd.ntmps44
    go_wp2_with (go_at_call 45; (with_reducible refine (s1 _).mono ?_); rintro e w' ⟨rfl, rfl⟩)
    go_ret
    exact ⟨rfl, (Below.refl _ _).alloc (Nat.le_refl _) _⟩
  · go_enter Tryd.func44, Tryd.ntmps44
    go_wp2_with (first | (go_at_call 45; (with_reducible refine (s1 _).mono ?_); rintro e w' ⟨rfl, rfl⟩) | (go_at_call 45; (with_reducible refine (s2 _).mono ?_); rintro e w' ⟨rfl, rfl⟩))
    go_ret
    exact ⟨by simp, (Below.refl _ _).alloc (Nat.le_refl _) _⟩

/-- What cmp.Compare answers of numbers. -/
def cmpN (a b : Int) : Int := if a < b then -1 else if b < a then 1 else 0
theorem cmpN_lt {a b : Int} (h : a < b) : cmpN a b = -1 := if_pos h
theorem cmpN_gt {a b : Int} (h : b < a) : cmpN a b = 1 := by unfold cmpN; rw [if_neg (by omega), if_pos h]
theorem cmpN_eq {a b : Int} (h : a = b) : cmpN a b = 0 := by unfold cmpN; rw [if_neg (by omega), if_neg (by omega)]
theorem nan_any (a : Int) (w : World) :
    Calls Tryd.prog 85 #[.int .i64 a] w fun e w' => e = .returned (.bool false) ∧ w = w' := by
  go_enter Tryd.func85, Tryd.ntmps85
  go_wp2_with fail
  go_ret
  exact ⟨by simp, rfl⟩
theorem cmpN_any (a b : Int) (w : World) :
    Calls Tryd.prog 77 #[.int .i64 a, .int .i64 b] w fun e w' => e = .returned (.int .i64 (cmpN a b)) ∧ w = w' := by
  rcases Int.lt_trichotomy a b with h | h | h
  · rw [cmpN_lt h]
    go_enter Tryd.func77, Tryd.ntmps77
    go_wp2_with (go_at_call 85; refine (nan_any _ _).mono ?_; rintro e w' ⟨rfl, rfl⟩)
    go_ret
    exact ⟨rfl, rfl⟩
  · subst h
    rw [cmpN_eq rfl]
    go_enter Tryd.func77, Tryd.ntmps77
    go_wp2_with (go_at_call 85; refine (nan_any _ _).mono ?_; rintro e w' ⟨rfl, rfl⟩)
    go_ret
    exact ⟨rfl, rfl⟩
  · rw [cmpN_gt h]
    have h' : ¬ a < b := by omega
    go_enter Tryd.func77, Tryd.ntmps77
    go_wp2_with (go_at_call 85; refine (nan_any _ _).mono ?_; rintro e w' ⟨rfl, rfl⟩)
    go_ret
    exact ⟨rfl, rfl⟩

/-- What cmp.Or answers of two. -/
def orN (x y : Int) : Int := if x = 0 then y else x
theorem orN_any (b : Nat) (x y : Int) (w : World) (h0 : w.cell? ⟨b, 0, none⟩ = some (.int .i64 x)) (h1 : w.cell? ⟨b, 1, none⟩ = some (.int .i64 y)) :
    Calls Tryd.prog 76 #[.slice (some ⟨b, 0, none⟩) 2 2] w fun e w' => e = .returned (.int .i64 (orN x y)) ∧ w = w' := by
  by_cases hx : x = 0
  · subst hx
    rw [show orN 0 y = y from rfl]
    by_cases hy : y = 0
    · subst hy
      go_enter Tryd.func76, Tryd.ntmps76
      go_wp2_with fail
      refine wp_loop_rounds 3 ?_
      rw [rounds_succ]
      go_wp2_with fail
      rw [rounds_succ]
      go_wp2_with fail
      rw [rounds_succ]
      go_wp2_with fail
      go_ret
      exact ⟨rfl, rfl⟩
    · have hy' : (y != 0) = true := by simpa using hy
      go_enter Tryd.func76, Tryd.ntmps76
      go_wp2_with fail
      refine wp_loop_rounds 3 ?_
      rw [rounds_succ]
      go_wp2_with fail
      rw [rounds_succ]
      go_wp2_with fail
      go_ret
      exact ⟨rfl, rfl⟩
  · rw [show orN x y = x from if_neg hx]
    have hx' : (x != 0) = true := by simpa using hx
    go_enter Tryd.func76, Tryd.ntmps76
    go_wp2_with fail
    refine wp_loop_rounds 1 ?_
    rw [rounds_succ]
    go_wp2_with fail
    go_ret
    exact ⟨rfl, rfl⟩

/-- What compare answers. -/
def cmpI (r n r' n' : Int) : Int := orN (cmpN r r') (cmpN n n')
theorem cmpN_neg {a b : Int} : cmpN a b < 0 ↔ a < b := by unfold cmpN; split <;> (try split) <;> omega
theorem cmpN_zero {a b : Int} : cmpN a b = 0 ↔ a = b := by unfold cmpN; split <;> (try split) <;> omega
theorem cmpI_neg (r n r' n' : Int) : decide (cmpI r n r' n' < 0) = ltB r n r' n' := by
  unfold cmpI orN ltB
  by_cases h : cmpN r r' = 0
  · rw [if_pos h]
    have := cmpN_zero.1 h
    rw [Bool.eq_iff_iff]; simp [cmpN_neg]; omega
  · rw [if_neg h]
    have h' : ¬ r = r' := fun e => h (cmpN_zero.2 e)
    rw [Bool.eq_iff_iff]; simp [cmpN_neg, h']
theorem cmpI_zero (r n r' n' : Int) : (cmpI r n r' n' = 0) ↔ (r = r' ∧ n = n') := by
  unfold cmpI orN
  by_cases h : cmpN r r' = 0
  · rw [if_pos h, cmpN_zero, cmpN_zero.1 h]; simp
  · rw [if_neg h]
    have h' : ¬ r = r' := fun e => h (cmpN_zero.2 e)
    simp [h, h']

theorem still_tail {P : Program} {id : Nat} {Q : Exit → Act → World → Prop} {a : Act} {w : World} {l : List Oper} (n : Nat) (hm : P.follows .mixedOrders = true) (hB : Region.lexTailB .any l.toArray n = true) (W : World) (hW : W = w.drew)
    (h : wpStill P l.toArray W (fun a' => wpList P l.toArray Q (l.drop n) a' W) (l.take n) a) : (Code.region id l.toArray true).wp P Q a w := by
  subst hW; exact wp_region_still_tail n hm hB h

set_option maxRecDepth 100000 in
set_option maxHeartbeats 1000000 in
theorem cmpI_any (r n r' n' : Int) (w : World) :
    Calls Tryd.prog 59 #[.agg #[.int .i64 r, .int .i64 n], .agg #[.int .i64 r', .int .i64 n']] w fun e w' => e = .returned (.int .i64 (cmpI r n r' n')) ∧ Below w.heap.size w w' := by
  have s1 := cmpN_any r r'
  have s2 := cmpN_any n n'
  unfold cmpI
  generalize cmpN r r' = x at s1 ⊢
  generalize cmpN n n' = y at s2 ⊢
  go_enter Tryd.func59, Tryd.ntmps59
  go_upto_region 1 with fail
  obtain ⟨W, hW⟩ : ∃ W, W = ((w.alloc (.cells #[.int .i64 r, .int .i64 n] 25)).alloc (.cells #[.int .i64 r', .int .i64 n'] 25)).drew := ⟨_, rfl⟩
  refine still_tail 10 (by kernel_rfl) (by kernel_rfl) W hW ?_
  simp only [List.take_succ_cons, List.take_zero, List.drop_succ_cons, List.drop_zero]
  have D : Hid (Below w.heap.size w W) := Lib.hid (by subst hW; exact (((Below.refl _ _).alloc (Nat.le_refl _) _).alloc (by simp) _).drew)
  have c0 : W.cell? ⟨w.heap.size, 0, none⟩ = some (.int .i64 r) := by subst hW; go_simp
  have c1 : W.cell? ⟨w.heap.size, 1, none⟩ = some (.int .i64 n) := by subst hW; go_simp
  have c2 : W.cell? ⟨w.heap.size + 1, 0, none⟩ = some (.int .i64 r') := by subst hW; go_simp
  have c3 : W.cell? ⟨w.heap.size + 1, 1, none⟩ = some (.int .i64 n') := by subst hW; go_simp
  clear hW
  iterate 4 still_step
  still_call ((s1 _).mono fun e w' h => ⟨h.1, h.2.symm⟩)
  iterate 4 still_step
  still_call ((s2 _).mono fun e w' h => ⟨h.1, h.2.symm⟩)
  refine wpStill_nil ?_
  go_wp2_with fail
  refine (orN_any _ x y _ (by go_simp) (by go_simp)).mono ?_
  rintro e w1 ⟨rfl, rfl⟩
  go_wp2_with fail
  go_ret
  exact ⟨rfl, D.out.alloc D.out.size _⟩
end Go.Proofs.YtbbnchodchgioaaDoor

/- l3Before of the model; boxes of a call with two ids. -/
namespace Go.Proofs.YtbbnchodchgioaaDoor
open Go.RowKit
set_option linter.unusedVariables false

/-- l3Before of the model. -/
theorem slt_any (r n r' n' : Int) (w : World) :
    Calls Tryd.prog 48 #[.agg #[.int .i64 r, .int .i64 n], .agg #[.int .i64 r', .int .i64 n']] w fun e w' => e = .returned (.bool (ltB r n r' n')) ∧ Below w.heap.size w w' := by
  rcases Int.lt_trichotomy r r' with h | rfl | h
  · have e1 : ltB r n r' n' = true := by simp [ltB]; omega
    rw [e1]; clear e1
    go_enter Tryd.func48, Tryd.ntmps48
    go_wp2_with fail
    go_ret
    exact ⟨rfl, ((Below.refl _ _).alloc (Nat.le_refl _) _).alloc (by simp) _⟩
  · have e1 : ltB r n r n' = decide (n < n') := by simp [ltB]
    rw [e1]; clear e1
    go_enter Tryd.func48, Tryd.ntmps48
    go_wp2_with fail
    go_ret
    exact ⟨by simp, ((Below.refl _ _).alloc (Nat.le_refl _) _).alloc (by simp) _⟩
  · have e1 : ltB r n r' n' = false := by simp [ltB]; omega
    rw [e1]; clear e1
    have h1 : ¬ r < r' := by omega
    have h2 : (r == r') = false := by simp; omega
    go_enter Tryd.func48, Tryd.ntmps48
    go_wp2_with fail
    go_ret
    exact ⟨rfl, ((Below.refl _ _).alloc (Nat.le_refl _) _).alloc (by simp) _⟩

/-- Two boxes of a call with two ids, behind callees that only make memory. -/
structure Two (w : World) (r n r' n' : Int) (w' : World) : Prop where
  a : w'.heap[w.heap.size]? = some (.cells #[.int .i64 r, .int .i64 n] 25 (0, 0))
  b : w'.heap[w.heap.size + 1]? = some (.cells #[.int .i64 r', .int .i64 n'] 25 (0, 0))
  z : w.heap.size + 2 ≤ w'.heap.size
  d : Below w.heap.size w w'

theorem Two.start (w : World) (r n r' n' : Int) : Two w r n r' n' ((w.alloc (.cells #[.int .i64 r, .int .i64 n] 25)).alloc (.cells #[.int .i64 r', .int .i64 n'] 25)) :=
  ⟨(Below.heap_alloc _ _ _ (by simp)).trans (heap_alloc_new w _), heap_alloc_at _ _ _ (by simp), by simp, ((Below.refl _ _).alloc (Nat.le_refl _) _).alloc (by simp) _⟩
theorem Two.up {w w1 w2 : World} {r n r' n' : Int} (h : Two w r n r' n' w1) (hb : Below w1.heap.size w1 w2) : Two w r n r' n' w2 :=
  ⟨(hb.block _ (by have := h.z; omega)).trans h.a, (hb.block _ (by have := h.z; omega)).trans h.b, Nat.le_trans h.z hb.size, h.d.trans (hb.mono (by have := h.z; omega))⟩
end Go.Proofs.YtbbnchodchgioaaDoor

/- The model's l3Put. -/
namespace Go.Proofs.YtbbnchodchgioaaDoor
open Go.RowKit
set_option linter.unusedVariables false

theorem infoP : (Tryd.prog.info? 25).map (fun i => (i.zero, i.size, i.bytes)) = some (some (.agg #[.int .i64 0, .int .i64 0]), 2, 16) := by kernel_rfl

/-- A slice of ids that is being built: in memory from B on, in a block of its own. -/
def Row (w : World) (B : Nat) (v : Value) (O : List Pid) : Prop := w.ownsRow B 25 2 v O.length (flatP O) ∧ v ≠ .slice none 0 0

theorem row_new (w : World) (B : Nat) (hB : B ≤ w.heap.size) : Row (w.alloc (.cells #[] 25)) B (.slice (some ⟨w.heap.size, 0, none⟩) 0 0) [] :=
  ⟨World.ownsRow_made _ #[] 0 hB (Nat.zero_le _) rfl, by simp⟩
theorem Row.shape {w : World} {B : Nat} {v : Value} {O : List Pid} (h : Row w B v O) : ∃ g cap, v = .slice (some ⟨g, 0, none⟩) O.length cap ∧ B ≤ g ∧ g < w.heap.size ∧ O.length ≤ cap ∧ cap ≤ maxLen := by
  rcases h.1.2 with ⟨rfl, _⟩ | ⟨g, cap, cur, rfl, h1, h2, h3, h4, h5, h6⟩
  · exact absurd rfl h.2
  · exact ⟨g, cap, rfl, h1, lt_of_heap h2, h3, h4⟩
theorem Row.own {w : World} {B : Nat} {v : Value} {O : List Pid} (h : Row w B v O) (hl : O.length ≤ 2000000) : ∃ b, B ≤ b ∧ OwnP w b v O := OwnP.of_row h.1 rfl hl h.2
/-- Other memory may turn. -/
theorem Row.up {w w' : World} {B : Nat} {v : Value} {O : List Pid} (h : Row w B v O) (hb : Below w.heap.size w w') : Row w' B v O := by
  refine ⟨?_, h.2⟩
  refine ⟨h.1.1, ?_⟩
  rcases h.1.2 with h1 | ⟨g, cap, cur, e, h1, h2, h3⟩
  · exact .inl h1
  · exact .inr ⟨g, cap, cur, e, h1, (hb.block g (lt_of_heap h2)).trans h2, h3⟩
theorem Row.put {w w' : World} {B : Nat} {v v' : Value} {O : List Pid} {x y : Int} (h : Row w B v O) (hown : w'.ownsRow B 25 2 v' (O.length + 1) (flatP O ++ [.int .i64 x, .int .i64 y])) (hn : v' ≠ .slice none 0 0) : Row w' B v' (O ++ [(x, y)]) :=
  ⟨by rw [flatP_app]; simpa [flatP, idv] using hown, hn⟩
/-- What an append leaves of elder memory. -/
theorem grown_below {w w' : World} {B : Nat} {v : Value} {O : List Pid} (h : Row w B v O) (hg : w.grownBy w' (Value.ownBlock v)) (hB : B ≤ w.heap.size) : Below B w w' := by
  obtain ⟨g, cap, rfl, h1, _⟩ := h.shape
  exact ⟨hg.os, hg.tape, hg.output, hg.size, fun k hk => hg.block k (by omega) (fun e => by simp [Value.ownBlock] at e; omega)⟩

/-- What is left of l3Put's loop. -/
theorem put_in {O L : List Pid} {a x : Pid} {k : Nat} (hk : k < L.length) (hx : L.getD k nop = x) (h : O ++ putF true a (L.drop k) = putP L a) : (O ++ [x]) ++ putF true a (L.drop (k + 1)) = putP L a := by
  rw [← h, drop_next hk, hx]; simp [putF]
theorem put_miss {O L : List Pid} {a x : Pid} {k : Nat} (hk : k < L.length) (hx : L.getD k nop = x) (hl : ltP a x = false) (h : O ++ putF false a (L.drop k) = putP L a) : (O ++ [x]) ++ putF false a (L.drop (k + 1)) = putP L a := by
  rw [← h, drop_next hk, hx, putF_miss hl]; simp
theorem put_hit {O L : List Pid} {a x : Pid} {k : Nat} (hk : k < L.length) (hx : L.getD k nop = x) (hl : ltP a x = true) (h : O ++ putF false a (L.drop k) = putP L a) : (O ++ [a] ++ [x]) ++ putF true a (L.drop (k + 1)) = putP L a := by
  rw [← h, drop_next hk, hx, putF_hit hl]; simp
theorem put_len {O L : List Pid} {a : Pid} {d : Bool} {k : Nat} (h : O ++ putF d a (L.drop k) = putP L a) : O.length ≤ L.length + 1 := by
  have := congrArg List.length h
  rw [List.length_append] at this
  have := (len_putP L a).2
  omega

theorem two_cells (w : World) (t : TypeId) (x y : Value) (n : Nat) (hn : n = w.heap.size) : ∀ j u, [x, y][j]? = some u → (w.alloc (.cells #[x, y] t)).cell? ((⟨n, 0, none⟩ : Addr).add j) = some u := by
  subst hn
  intro j u hj
  match j, hj with
  | 0, hj => simp at hj; subst hj; simp [Addr.add]
  | 1, hj => simp at hj; subst hj; simp [Addr.add]
  | j + 2, hj => simp at hj

theorem put_mid {w wc w4 : World} {v v' : Value} {O : List Pid} {x y p r : Int} {o : Obj} (D : Below w.heap.size w wc) (hA : wc.heap[w.heap.size]? = some (.cells #[.int .i64 x, .int .i64 y] 25 (0, 0))) (hR : Row wc (w.heap.size + 1) v O)
    (hown : w4.ownsRow (w.heap.size + 1) 25 2 v' (O.length + 1) (flatP O ++ [.int .i64 p, .int .i64 r])) (hg : (wc.alloc o).grownBy w4 (Value.ownBlock v)) (hn : v' ≠ .slice none 0 0) :
    Row w4 (w.heap.size + 1) v' (O ++ [(p, r)]) ∧ w4.heap[w.heap.size]? = some (.cells #[.int .i64 x, .int .i64 y] 25 (0, 0)) ∧ Below w.heap.size w w4 := by
  have hR1 : Row (wc.alloc o) (w.heap.size + 1) v O := hR.up ((Below.refl _ _).alloc (Nat.le_refl _) _)
  have hs := lt_of_heap hA
  have B4 := grown_below hR1 hg (by simp; omega)
  exact ⟨hR.put hown hn, (B4.block w.heap.size (by omega)).trans ((Below.heap_alloc _ _ _ hs).trans hA), (D.alloc D.size _).trans (B4.mono (by omega))⟩

/-- What l3Put leaves. -/
def PutPost (L : List Pid) (a : Pid) (w : World) (e : Ending) (w' : World) : Prop :=
  ∃ b u, w.heap.size ≤ b ∧ e = .returned u ∧ OwnP w' b u (putP L a) ∧ Below w.heap.size w w'

/-- The loop's relation: the box of the id lies at w's end. -/
def PutRel (L : List Pid) (x y : Int) (w : World) (k : Nat) (v : Value) (d : Bool) (wr : World) : Prop :=
  ∃ O : List Pid, Row wr (w.heap.size + 1) v O ∧ O ++ putF d (x, y) (L.drop k) = putP L (x, y) ∧ wr.heap[w.heap.size]? = some (.cells #[.int .i64 x, .int .i64 y] 25 (0, 0)) ∧ Below w.heap.size w wr

set_option maxRecDepth 100000 in
set_option maxHeartbeats 4000000 in
theorem sput_at (b off ca : Nat) (L : List Pid) (x y : Int) (w : World) (hb : b < w.heap.size) (hm : L.length ≤ 1900000) (h : ∀ i, i < L.length → w.cell? ⟨b, off + i * 2, none⟩ = some (.int .i64 (L.getD i nop).1) ∧ w.cell? ⟨b, off + i * 2 + 1, none⟩ = some (.int .i64 (L.getD i nop).2)) :
    Calls Tryd.prog 69 #[.slice (some ⟨b, off, none⟩) L.length ca, .agg #[.int .i64 x, .int .i64 y]] w (PutPost L (x, y) w) := by
  obtain ⟨i0, hi, hz0, hz1, hz2⟩ := info_parts infoP
  have sh := shas_at b off ca L x y
  have h := Lib.hid h
  obtain ⟨n, hn⟩ : ∃ n, Hid (L.length = n) := ⟨_, Lib.hid rfl⟩
  obtain ⟨d0, hd0⟩ : ∃ q, Hid (hasP L (x, y) = q) := ⟨_, Lib.hid rfl⟩
  rw [hn.out] at hm sh ⊢
  rw [hd0.out] at sh
  have R0 : Hid (Row ((w.alloc (.cells #[.int .i64 x, .int .i64 y] 25)).alloc (.cells #[] 25)) (w.heap.size + 1) (.slice (some ⟨w.heap.size + 1, 0, none⟩) 0 0) []) := Lib.hid (by have := row_new (w.alloc (.cells #[.int .i64 x, .int .i64 y] 25)) (w.heap.size + 1) (by simp); simpa using this)
  go_enter Tryd.func69, Tryd.ntmps69
  go_wp2_with fail
  refine (sh _ (by simp; omega) (by omega) (fun i hi' => ?_)).mono ?_
  · have D0 : Below w.heap.size w ((w.alloc (.cells #[.int .i64 x, .int .i64 y] 25)).alloc (.cells #[] 25)) := ((Below.refl _ _).alloc (Nat.le_refl _) _).alloc (by simp) _
    rw [D0.cell (p := ⟨b, off + i * 2, none⟩) hb, D0.cell (p := ⟨b, off + i * 2 + 1, none⟩) hb]
    exact h.out i (by rw [hn.out]; exact hi')
  rintro e w1 ⟨rfl, hb1⟩
  have R1 : Hid (PutRel L x y w 0 (.slice (some ⟨w.heap.size + 1, 0, none⟩) 0 0) d0 w1) := Lib.hid ⟨[], R0.out.up hb1, by rw [← hd0.out]; rfl, (hb1.block w.heap.size (by simp; omega)).trans ((Below.heap_alloc _ _ _ (by simp)).trans (heap_alloc_new w _)), (((Below.refl _ _).alloc (Nat.le_refl _) _).alloc (by simp) _).trans (hb1.mono (by simp; omega))⟩
  clear R0 hb1 sh hd0
  go_wp2_with fail
  go_loopw [5, 6, 7] (fun v d i wr => ∃ (k : Nat) (q : Bool), k ≤ n ∧ i = .int .i64 k ∧ d = .bool q ∧ PutRel L x y w k v q wr) (fun _ _ i _ => n - (intOf i).toNat)
  case atStart => exact ⟨0, d0, Nat.zero_le _, rfl, rfl, R1.out⟩
  case round =>
    obtain ⟨k, q, hk, rfl, rfl, O, hR, hE, hA, hnx⟩ := hrel
    clear R1
    have hOl := put_len hE
    rw [hn.out] at hOl
    have hR := Lib.hid hR
    have hE := Lib.hid hE
    obtain ⟨x0, x1, _, _⟩ := blk2 hA
    have hs := lt_of_heap hA
    have hA := Lib.hid hA
    by_cases hlt : k < n
    · obtain ⟨h0, h1⟩ := h.out k (by rw [hn.out]; exact hlt)
      have q0 := (hnx.cell (p := ⟨b, off + k * 2, none⟩) hb).trans h0
      have q1 := (hnx.cell (p := ⟨b, off + k * 2 + 1, none⟩) hb).trans h1
      clear h0 h1
      obtain ⟨c, hc⟩ : ∃ c, Hid (L.getD k nop = c) := ⟨_, Lib.hid rfl⟩
      rw [hc.out] at q0 q1
      obtain ⟨p, r⟩ := c
      dsimp only at q0 q1
      have hnx := Lib.hid hnx
      have q00 := Lib.hid (h.out k (by rw [hn.out]; exact hlt)).1
      have q01 := Lib.hid (h.out k (by rw [hn.out]; exact hlt)).2
      rw [hc.out] at q00 q01
      cases q
      · by_cases hlt2 : ltB x y p r = true
        · have sl := slt_any x y p r
          rw [hlt2] at sl
          have F := Lib.hid (put_hit (by rw [hn.out]; exact hlt) hc.out (show ltP (x, y) (p, r) = true from hlt2) hE.out)
          clear hlt2 h
          go_wp2_with fail
          go_region_with (go_at_call 48; (with_reducible refine (sl _).mono ?_); rintro e w2 ⟨rfl, B⟩; have D2 := Lib.hid (bstep (Below.drew hnx.out) B); have A2 := Lib.hid ((Below.block B _ hs).trans (show wr.drew.heap[w.heap.size]? = _ from hA.out)); have R2 := Lib.hid ((Row.up hR.out (Below.drew (Below.refl _ _))).up B); obtain ⟨x0, x1, _, _⟩ := blk2 A2.out; have q0 := cell_later B (show wr.drew.cell? _ = _ from q0); have q1 := cell_later B (show wr.drew.cell? _ = _ from q1); have hs := lt_of_heap A2.out; have sz := Below.size B; clear B hA hR hnx)
          all_goals
            go_wp2_with (at_builtin; refine wpList_append_own _ rfl _ _ 28 rfl (w.heap.size + 1) 25 i0 (.agg #[.int .i64 0, .int .i64 0]) 2 16 Tryd.underlying28 hi hz0 hz1 hz2 rfl (by decide) _ _ _ rfl (R2.out.1.alloc _) ⟨w2.heap.size, 0, none⟩ 1 1 [.int .i64 x, .int .i64 y] rfl rfl ?c1 ?c2 ?c3 ?c4 ?c5 ?_)
            case c1 => exact two_cells _ _ _ _ _ (by simp)
            case c2 => intro u hu; simp at hu; rcases hu with rfl | rfl <;> rfl
            case c3 => unfold maxLen; first | omega | (simp; omega)
            case c4 => first | omega | (simp; omega)
            case c5 => first | omega | (simp; omega)
            intro v3 w3 hown' hgrow hnil
            obtain ⟨R1, R2', R3⟩ := put_mid D2.out A2.out R2.out hown' hgrow (fun e => hnil e)
            have R4 := Lib.hid R1
            have A4 := Lib.hid R2'
            have D4 := Lib.hid R3
            have hb4 : Below w2.heap.size w2 w2 := Below.refl _ _
            have q0' : w3.cell? ⟨b, off + k * 2, none⟩ = some (.int .i64 p) := (Below.cell R3 (p := ⟨b, off + k * 2, none⟩) hb).trans q00.out
            have q1' : w3.cell? ⟨b, off + k * 2 + 1, none⟩ = some (.int .i64 r) := (Below.cell R3 (p := ⟨b, off + k * 2 + 1, none⟩) hb).trans q01.out
            obtain ⟨x0', x1', _, _⟩ := blk2 A4.out
            have hs' := lt_of_heap A4.out
            have hOl' : (O ++ [(x, y)]).length ≤ 1900002 := by simp; omega
            clear hown' hgrow hnil R1 R2' R3 hb4 q0 q1 x0 x1 D2 A2 R2
            obtain ⟨O2, hO2⟩ : ∃ O2, O ++ [(x, y)] = O2 := ⟨_, rfl⟩
            rw [hO2] at R4 F hOl'
            clear hO2
            go_wp2_with (at_builtin; refine wpList_append_own _ rfl _ _ 28 rfl (w.heap.size + 1) 25 i0 (.agg #[.int .i64 0, .int .i64 0]) 2 16 Tryd.underlying28 hi hz0 hz1 hz2 rfl (by decide) _ _ _ rfl (R4.out.1.alloc _) ⟨w3.heap.size, 0, none⟩ 1 1 [.int .i64 p, .int .i64 r] rfl rfl ?c1 ?c2 ?c3 ?c4 ?c5 ?_)
            case c1 => exact two_cells _ _ _ _ _ (by simp)
            case c2 => intro u hu; simp at hu; rcases hu with rfl | rfl <;> rfl
            case c3 => unfold maxLen; first | omega | (simp; omega)
            case c4 => first | omega | (simp; omega)
            case c5 => first | omega | (simp; omega)
            intro v' w4 hown' hgrow hnil
            obtain ⟨R1, R2', R3⟩ := put_mid D4.out A4.out R4.out hown' hgrow (fun e => hnil e)
            have RR : Hid (PutRel L x y w (k + 1) v' true w4) := Lib.hid ⟨_, R1, F.out, R2', R3⟩
            clear hown' hgrow hnil R1 R2' R3 F hE
            go_wp2_with fail
            go_roundw
            case rel => exact ⟨k + 1, true, by omega, by go_num, rfl, RR.out⟩
            case measure => simp [intOf]; omega
        · have hlt2 : ltB x y p r = false := by simpa using hlt2
          have sl := slt_any x y p r
          rw [hlt2] at sl
          have F := Lib.hid (put_miss (by rw [hn.out]; exact hlt) hc.out (show ltP (x, y) (p, r) = false from hlt2) hE.out)
          clear hlt2 h
          go_wp2_with fail
          go_region_with (go_at_call 48; (with_reducible refine (sl _).mono ?_); rintro e w2 ⟨rfl, B⟩; have D2 := Lib.hid (bstep (Below.drew hnx.out) B); have A2 := Lib.hid ((Below.block B _ hs).trans (show wr.drew.heap[w.heap.size]? = _ from hA.out)); have R2 := Lib.hid ((Row.up hR.out (Below.drew (Below.refl _ _))).up B); obtain ⟨x0, x1, _, _⟩ := blk2 A2.out; have q0 := cell_later B (show wr.drew.cell? _ = _ from q0); have q1 := cell_later B (show wr.drew.cell? _ = _ from q1); have hs := lt_of_heap A2.out; have sz := Below.size B; clear B hA hR hnx)
          all_goals
            go_wp2_with (at_builtin; refine wpList_append_own _ rfl _ _ 28 rfl (w.heap.size + 1) 25 i0 (.agg #[.int .i64 0, .int .i64 0]) 2 16 Tryd.underlying28 hi hz0 hz1 hz2 rfl (by decide) _ _ _ rfl (R2.out.1.alloc _) ⟨w2.heap.size, 0, none⟩ 1 1 [.int .i64 p, .int .i64 r] rfl rfl ?c1 ?c2 ?c3 ?c4 ?c5 ?_)
            case c1 => exact two_cells _ _ _ _ _ (by simp)
            case c2 => intro u hu; simp at hu; rcases hu with rfl | rfl <;> rfl
            case c3 => unfold maxLen; first | omega | (simp; omega)
            case c4 => first | omega | (simp; omega)
            case c5 => first | omega | (simp; omega)
            intro v' w4 hown' hgrow hnil
            obtain ⟨R1, R2', R3⟩ := put_mid D2.out A2.out R2.out hown' hgrow (fun e => hnil e)
            have RR : Hid (PutRel L x y w (k + 1) v' false w4) := Lib.hid ⟨_, R1, F.out, R2', R3⟩
            clear hown' hgrow hnil R1 R2' R3 F hE
            go_wp2_with fail
            go_roundw
            case rel => exact ⟨k + 1, false, by omega, by go_num, rfl, RR.out⟩
            case measure => simp [intOf]; omega
      · have F := Lib.hid (put_in (by rw [hn.out]; exact hlt) hc.out hE.out)
        clear h
        go_wp2_with fail
        go_quiet (fail)
        go_wp2_with (at_builtin; refine wpList_append_own _ rfl _ _ 28 rfl (w.heap.size + 1) 25 i0 (.agg #[.int .i64 0, .int .i64 0]) 2 16 Tryd.underlying28 hi hz0 hz1 hz2 rfl (by decide) _ _ _ rfl ((hR.out.up (bdrewN (Below.refl _ _) _)).1.alloc _) ⟨wr.heap.size, 0, none⟩ 1 1 [.int .i64 p, .int .i64 r] rfl rfl ?c1 ?c2 ?c3 ?c4 ?c5 ?_)
        case c1 => exact two_cells _ _ _ _ _ (by simp)
        case c2 => intro u hu; simp at hu; rcases hu with rfl | rfl <;> rfl
        case c3 => unfold maxLen; first | omega | (simp; omega)
        case c4 => first | omega | (simp; omega)
        case c5 => first | omega | (simp; omega)
        intro v' w4 hown' hgrow hnil
        obtain ⟨R1, R2', R3⟩ := put_mid (bdrewN hnx.out _) (show (wr.drewN _).heap[w.heap.size]? = _ from hA.out) (hR.out.up (bdrewN (Below.refl _ _) _)) hown' hgrow (fun e => hnil e)
        have RR : Hid (PutRel L x y w (k + 1) v' true w4) := Lib.hid ⟨_, R1, F.out, R2', R3⟩
        clear hR hA hnx hown' hgrow hnil R1 R2' R3 F hE
        go_wp2_with fail
        go_roundw
        case rel => exact ⟨k + 1, true, by omega, by go_num, rfl, RR.out⟩
        case measure => simp [intOf]; omega
    · obtain rfl : k = n := by omega
      have hdr : L.drop k = [] := List.drop_eq_nil_of_le (by rw [hn.out]; exact Nat.le_refl _)
      have hE2 := hE.out
      rw [hdr] at hE2
      have hE2 := Lib.hid hE2
      have hnx := Lib.hid hnx
      clear h hE hdr
      cases q
      · skip
        go_wp2_with (at_builtin; refine wpList_append_own _ rfl _ _ 28 rfl (w.heap.size + 1) 25 i0 (.agg #[.int .i64 0, .int .i64 0]) 2 16 Tryd.underlying28 hi hz0 hz1 hz2 rfl (by decide) _ _ _ rfl (hR.out.1.alloc _) ⟨wr.heap.size, 0, none⟩ 1 1 [.int .i64 x, .int .i64 y] rfl rfl ?c1 ?c2 ?c3 ?c4 ?c5 ?_)
        case c1 => exact two_cells _ _ _ _ _ (by simp)
        case c2 => intro u hu; simp at hu; rcases hu with rfl | rfl <;> rfl
        case c3 => unfold maxLen; first | omega | (simp; omega)
        case c4 => first | omega | (simp; omega)
        case c5 => first | omega | (simp; omega)
        intro v' w4 hown' hgrow hnil
        obtain ⟨R1, R2', R3⟩ := put_mid hnx.out hA.out hR.out hown' hgrow (fun e => hnil e)
        obtain ⟨g, hg, hO⟩ := R1.own (by simp; omega)
        rw [show O ++ [(x, y)] = putP L (x, y) from hE2.out] at hO
        have hO := Lib.hid hO
        have D4 := Lib.hid R3
        clear hown' hgrow hnil R1 R2' R3 hR hA hnx
        go_wp2_with fail
        go_ret
        exact ⟨g, _, by omega, rfl, hO.out, D4.out⟩
      · obtain ⟨g, hg, hO⟩ := hR.out.own (by omega)
        rw [show O = putP L (x, y) from (List.append_nil O).symm.trans hE2.out] at hO
        have hO := Lib.hid hO
        clear hR hA
        go_wp2_with fail
        go_ret
        exact ⟨g, _, by omega, rfl, hO.out, hnx.out⟩

theorem Row.parts {w : World} {B g n cap : Nat} {O : List Pid} (h : Row w B (.slice (some ⟨g, 0, none⟩) n cap) O) : ∃ cur, w.heap[g]? = some (.cells cur 25 (0, 0)) ∧ cur.size = cap * 2 ∧ O.length = n ∧ (∀ j, j < cap * 2 → (w.cell? ⟨g, j, none⟩).isSome = true) ∧ (∀ j, w.frozen? ⟨g, j, none⟩ = false) ∧ (∀ j, j < n * 2 → w.cell? ⟨g, j, none⟩ = (flatP O)[j]?) := by
  rcases h.1.2 with ⟨e, _⟩ | ⟨g', cap', cur, e, h1, h2, h3, h4, h5, h6⟩
  · exact absurd e h.2
  · injection e with e1 e2 e3
    injection e1 with e1
    injection e1 with e1
    subst e1 e2 e3
    refine ⟨cur, h2, h5, rfl, fun j hj => ?_, fun j => by simp [World.frozen?, h2], fun j hj => ?_⟩
    · rw [cell_of_cells h2, Array.getElem?_eq_getElem (by omega)]; rfl
    · rw [cell_of_cells h2, ← h6, List.getElem?_take, if_pos hj]; simp
end Go.Proofs.YtbbnchodchgioaaDoor

/- Slices of nodes: read. -/
namespace Go.Proofs.YtbbnchodchgioaaDoor
open Go.RowKit
set_option linter.unusedVariables false

theorem four_cells {w : World} {b : Nat} {x y z u : Value} {t : TypeId} (h : w.heap[b]? = some (.cells #[x, y, z, u] t (0, 0))) :
    w.cell? ⟨b, 0, none⟩ = some x ∧ w.cell? ⟨b, 1, none⟩ = some y ∧ w.cell? ⟨b, 2, none⟩ = some z ∧ w.cell? ⟨b, 3, none⟩ = some u := by
  simp [World.cell?, h]

/-- A node as a value. -/
def ndv (x : Nd) (u : Value) : Value := .agg #[.int .i64 x.id.1, .int .i64 x.id.2, .int .i64 x.seq, u]
/-- A node in memory, from a cell on. -/
def NdIn (w : World) (b o : Nat) (x : Nd) : Prop := ∃ (ua : Option Addr) (un uc : Nat), w.cell? ⟨b, o, none⟩ = some (.int .i64 x.id.1) ∧ w.cell? ⟨b, o + 1, none⟩ = some (.int .i64 x.id.2) ∧ w.cell? ⟨b, o + 2, none⟩ = some (.int .i64 x.seq) ∧ w.cell? ⟨b, o + 3, none⟩ = some (.slice ua un uc) ∧ Ids w (.slice ua un uc) x.deps
theorem NdIn.up {w w' : World} {b o B : Nat} {x : Nd} (h : NdIn w b o x) (hb : Below B w w') (hB : w.heap.size ≤ B) (hl : b < w.heap.size) : NdIn w' b o x := by
  obtain ⟨ua, un, uc, h0, h1, h2, h3, h4⟩ := h
  have hc : ∀ o, w'.cell? ⟨b, o, none⟩ = w.cell? ⟨b, o, none⟩ := fun o => hb.cell (p := ⟨b, o, none⟩) (Nat.lt_of_lt_of_le hl hB)
  exact ⟨ua, un, uc, by rw [hc]; exact h0, by rw [hc]; exact h1, by rw [hc]; exact h2, by rw [hc]; exact h3, h4.up hb hB⟩
/-- A slice of nodes, readable. -/
def Nds (w : World) (v : Value) (N : List Nd) : Prop :=
  ∃ a cap, v = .slice a N.length cap ∧ N.length ≤ cap ∧ N.length ≤ 2000000 ∧ (N.length = 0 ∨ ∃ b off, a = some ⟨b, off, none⟩ ∧ b < w.heap.size ∧ ∀ i, i < N.length → NdIn w b (off + i * 4) (N.getD i nd0))
theorem Nds.up {w w' : World} {B : Nat} {v : Value} {N : List Nd} (h : Nds w v N) (hb : Below B w w') (hB : w.heap.size ≤ B) : Nds w' v N := by
  obtain ⟨a, cap, rfl, h1, h2, h3⟩ := h
  refine ⟨a, cap, rfl, h1, h2, ?_⟩
  rcases h3 with h3 | ⟨b, off, rfl, h4, h5⟩
  · exact .inl h3
  · exact .inr ⟨b, off, rfl, Nat.lt_of_lt_of_le h4 hb.size, fun i hi => (h5 i hi).up hb hB h4⟩
end Go.Proofs.YtbbnchodchgioaaDoor

/- The laws' copies of ids. -/
namespace Go.Proofs.YtbbnchodchgioaaDoor
open Go.RowKit
set_option linter.unusedVariables false

theorem toId_any (r n : Int) (w : World) :
    Calls Tryd.prog 33 #[.agg #[.int .i64 r, .int .i64 n]] w fun e w' => e = .returned (.agg #[.int .i64 r, .int .i64 n]) ∧ Below w.heap.size w w' := by
  go_enter Tryd.func33, Tryd.ntmps33
  go_wp2_with fail
  exact bodyPost_ret (v := .agg #[.int .i64 r, .int .i64 n]) (by simp [results, Tryd.results33, go_sem]) rfl ⟨rfl, by repeat (first | with_reducible exact Below.refl _ _ | with_reducible refine Below.setCell ?_ (by first | (simp; done) | (simp; omega)) _ | with_reducible refine Below.alloc ?_ (by first | (simp; done) | (simp; omega)) _)⟩

end Go.Proofs.YtbbnchodchgioaaDoor

/- The laws' copies, comparisons and marks of slices of ids. -/
namespace Go.Proofs.YtbbnchodchgioaaDoor
open Go.RowKit
set_option linter.unusedVariables false

theorem madeP (n j : Nat) (h : j < n * 2) : (madeCells #[.int .i64 0, .int .i64 0] (n * 2))[j]? = some (.int .i64 0) := by
  unfold madeCells
  rw [Array.getElem?_map, Array.getElem?_range]
  rw [if_pos h]
  have : j % 2 = 0 ∨ j % 2 = 1 := by omega
  rcases this with e | e <;> simp [e]

theorem repP_get (n i : Nat) : (List.replicate n nop).getD i nop = nop := by
  rw [List.getD_eq_getElem?_getD, List.getElem?_replicate]
  split <;> rfl

theorem ownP_made (w : World) (n : Nat) (hn : n ≤ 2000000) (t : TypeId) : OwnP (w.alloc (.cells (madeCells #[.int .i64 0, .int .i64 0] (n * 2)) t)) w.heap.size (.slice (some ⟨w.heap.size, 0, none⟩) n n) (List.replicate n nop) := by
  refine ⟨n, _, t, by simp, heap_alloc_new w _, by simp, by simpa using hn, fun i hi => ?_⟩
  rw [List.length_replicate] at hi
  rw [madeP n _ (by omega), madeP n _ (by omega), repP_get]
  exact ⟨rfl, rfl⟩

theorem info_id : (Tryd.prog.info? 25).map (fun i => (i.zero, i.size, i.bytes)) = some (some (.agg #[.int .i64 0, .int .i64 0]), 2, 16) := by kernel_rfl

theorem made_ids (n : Nat) (hn : n ≤ 2000000) (w : World) : (Instr.makeSlice 28 (.int .i64 n) (.int .i64 n)).run Tryd.prog w = .ok (.slice (some ⟨w.heap.size, 0, none⟩) n n) (w.alloc (.cells (madeCells #[.int .i64 0, .int .i64 0] (n * 2)) 25)) := by
  obtain ⟨i, hi, hz, hs, hb⟩ := info_parts info_id
  have hr := run_make (P := Tryd.prog) w 28 25 i _ Tryd.underlying28 hi hz .i64 .i64 n n (by omega) (Int.le_refl _) (by rw [hb]; omega) (by omega)
  simp only [Int.toNat_natCast, hs] at hr
  exact hr

theorem id_same {A B : List Pid} (hl : A.length = B.length) (h : ∀ j, j < A.length → A.getD j nop = B.getD j nop) : A = B := by
  apply List.ext_getElem hl
  intro i h1 h2
  have := h i h1
  rw [List.getD_eq_getElem?_getD, List.getD_eq_getElem?_getD, List.getElem?_eq_getElem h1, List.getElem?_eq_getElem h2] at this
  simpa using this
theorem id_up {M C : List Pid} {k : Nat} (hM : k < M.length) (h : ∀ j, j < k → M.getD j nop = C.getD j nop) : ∀ j, j < k + 1 → (M.set k (C.getD k nop)).getD j nop = C.getD j nop := by
  intro j hj
  by_cases e : j = k
  · subst e; rw [List.getD_eq_getElem?_getD, List.getElem?_set_self hM]; rfl
  · rw [List.getD_eq_getElem?_getD, List.getElem?_set_ne (fun x => e x.symm), ← List.getD_eq_getElem?_getD]; exact h j (by omega)

/-- What toIdS leaves: a copy in a block of its own. -/
def CopPPost (C : List Pid) (w : World) (e : Ending) (w' : World) : Prop :=
  ∃ b u, w.heap.size ≤ b ∧ e = .returned u ∧ OwnP w' b u C ∧ Below w.heap.size w w'

set_option maxRecDepth 100000 in
set_option maxHeartbeats 2000000 in
theorem toP_at (b off ca : Nat) (C : List Pid) (w : World) (hb : b < w.heap.size) (hm : C.length ≤ 2000000) (h : ∀ i, i < C.length → w.cell? ⟨b, off + i * 2, none⟩ = some (.int .i64 (C.getD i nop).1) ∧ w.cell? ⟨b, off + i * 2 + 1, none⟩ = some (.int .i64 (C.getD i nop).2)) :
    Calls Tryd.prog 79 #[.slice (some ⟨b, off, none⟩) C.length ca] w (CopPPost C w) := by
  have hmk := made_ids C.length hm
  have h := Lib.hid h
  have hO := Lib.hid (ownP_made w C.length hm 25)
  obtain ⟨n, hn⟩ : ∃ n, Hid (C.length = n) := ⟨_, Lib.hid rfl⟩
  rw [hn.out] at hmk hm hO ⊢
  go_enter Tryd.func79, Tryd.ntmps79
  go_wp2_with fail
  clear hmk
  go_loopw [4] (fun i wr => ∃ k : Nat, k ≤ n ∧ i = .int .i64 k ∧ ∃ M : List Pid, Hid (M.length = n ∧ (∀ j, j < k → M.getD j nop = C.getD j nop) ∧ OwnP wr w.heap.size (.slice (some ⟨w.heap.size, 0, none⟩) n n) M) ∧ Below w.heap.size w wr) (fun i _ => n - (intOf i).toNat)
  case atStart => exact ⟨0, Nat.zero_le _, rfl, List.replicate n nop, Lib.hid ⟨by simp, fun j hj => absurd hj (Nat.not_lt_zero _), hO.out⟩, (Below.refl _ _).alloc (Nat.le_refl _) _⟩
  case round =>
    obtain ⟨k, hk, rfl, M, hM, hnx⟩ := hrel
    clear hO
    by_cases hlt : k < n
    · obtain ⟨h0, h1⟩ := h.out k (by rw [hn.out]; exact hlt)
      have q0 := (hnx.cell (p := ⟨b, off + k * 2, none⟩) hb).trans h0
      have q1 := (hnx.cell (p := ⟨b, off + k * 2 + 1, none⟩) hb).trans h1
      clear h0 h1
      obtain ⟨c, hc⟩ : ∃ c, Hid (C.getD k nop = c) := ⟨_, Lib.hid rfl⟩
      rw [hc.out] at q0 q1
      obtain ⟨x, y⟩ := c
      dsimp only at q0 q1
      have hs := Lib.hid hM.out.2.2.lt
      have hnx := Lib.hid hnx
      go_wp2_with fail
      refine (toId_any x y _).mono ?_
      rintro e w1 ⟨rfl, B⟩
      have hO1 := hM.out.2.2.up B hs.out
      obtain ⟨d0, d1⟩ := hO1.cell k (by rw [hM.out.1]; exact hlt)
      have f0 := hO1.free (k * 2)
      have f1 := hO1.free (k * 2 + 1)
      have hs1 := hO1.lt
      have R := Lib.hid (hO1.set k (by rw [hM.out.1]; exact hlt) (x, y))
      have R2 := Lib.hid (id_up (C := C) (by rw [hM.out.1]; exact hlt) hM.out.2.1)
      have hl := Lib.hid hM.out.1
      have D1 := Lib.hid (hnx.out.trans (B.mono hnx.out.size))
      generalize M.getD k nop = y0 at d0 d1
      clear hM h hO1 B hnx q0 q1 hs
      go_wp2_with fail
      go_roundw
      case rel => exact ⟨k + 1, by omega, by go_num, M.set k (x, y), Lib.hid ⟨by rw [List.length_set]; exact hl.out, by rw [← hc.out]; exact R2.out, R.out⟩, (D1.out.setCell (by simp) _).setCell (by simp) _⟩
      case measure => simp [intOf]; omega
    · obtain rfl : k = n := by omega
      have e : Hid (M = C) := Lib.hid (id_same (hM.out.1.trans hn.out.symm) (fun j hj => hM.out.2.1 j (by rw [← hM.out.1]; exact hj)))
      have hnx := Lib.hid hnx
      clear h
      go_wp2_with fail
      go_ret
      exact ⟨w.heap.size, _, Nat.le_refl _, rfl, by rw [← e.out]; exact hM.out.2.2, hnx.out⟩

theorem toP_nil (a : Option Addr) (ca : Nat) (w : World) :
    Calls Tryd.prog 79 #[.slice a 0 ca] w (CopPPost [] w) := by
  have hmk : ∀ w : World, (Instr.makeSlice 28 (.int .i64 0) (.int .i64 0)).run Tryd.prog w = .ok (.slice (some ⟨w.heap.size, 0, none⟩) 0 0) (w.alloc (.cells (madeCells #[.int .i64 0, .int .i64 0] (0 * 2)) 25)) := made_ids 0 (by omega)
  have hO := Lib.hid (ownP_made w 0 (by omega) 25)
  go_enter Tryd.func79, Tryd.ntmps79
  go_wp2_with fail
  refine wp_loop_rounds 1 ?_
  rw [rounds_succ]
  go_wp2_with fail
  go_ret
  exact ⟨w.heap.size, _, Nat.le_refl _, rfl, hO.out, (Below.refl _ _).alloc (Nat.le_refl _) _⟩

/-- A COPY. -/
theorem toP_any (u : Value) (C : List Pid) (w : World) (h : Ids w u C) :
    Calls Tryd.prog 79 #[u] w (CopPPost C w) := by
  obtain ⟨a, cap, rfl, h1, h2, h3⟩ := h
  rcases h3 with h3 | ⟨b, off, rfl, h4, h5⟩
  · obtain rfl : C = [] := List.length_eq_zero_iff.1 h3
    exact toP_nil a cap w
  · exact toP_at b off cap C w h4 h2 h5

theorem eqP1 (x y : Int) (w : World) :
    Calls Tryd.prog 62 #[.agg #[.int .i64 x, .int .i64 y], .agg #[.int .i64 x, .int .i64 y]] w fun e w' => e = .returned (.bool true) ∧ Below w.heap.size w w' := by
  go_enter Tryd.func62, Tryd.ntmps62
  go_wp2_with fail
  go_ret
  exact ⟨rfl, ((Below.refl _ _).alloc (Nat.le_refl _) _).alloc (by simp) _⟩

set_option maxRecDepth 100000 in
set_option maxHeartbeats 2000000 in
theorem eqP_at (a b oa ob ca cb : Nat) (C : List Pid) (w : World) (hm : C.length ≤ 2000000) (ha : a < w.heap.size) (hb : b < w.heap.size)
    (hA : ∀ i, i < C.length → w.cell? ⟨a, oa + i * 2, none⟩ = some (.int .i64 (C.getD i nop).1) ∧ w.cell? ⟨a, oa + i * 2 + 1, none⟩ = some (.int .i64 (C.getD i nop).2))
    (hB : ∀ i, i < C.length → w.cell? ⟨b, ob + i * 2, none⟩ = some (.int .i64 (C.getD i nop).1) ∧ w.cell? ⟨b, ob + i * 2 + 1, none⟩ = some (.int .i64 (C.getD i nop).2)) :
    Calls Tryd.prog 34 #[.slice (some ⟨a, oa, none⟩) C.length ca, .slice (some ⟨b, ob, none⟩) C.length cb] w fun e w' => e = .returned (.bool true) ∧ Below w.heap.size w w' := by
  have hA := Lib.hid hA
  have hB := Lib.hid hB
  obtain ⟨n, hn⟩ : ∃ n, Hid (C.length = n) := ⟨_, Lib.hid rfl⟩
  rw [hn.out] at hm ⊢
  go_enter Tryd.func34, Tryd.ntmps34
  go_wp2_with fail
  go_loopw [5] (fun i wr => ∃ k : Nat, k ≤ n ∧ i = .int .i64 k ∧ Below w.heap.size w wr) (fun i _ => n - (intOf i).toNat)
  case atStart => exact ⟨0, Nat.zero_le _, rfl, Below.refl _ _⟩
  case round =>
    obtain ⟨k, hk, rfl, hnx⟩ := hrel
    by_cases hlt : k < n
    · obtain ⟨h0, h1⟩ := hA.out k (by rw [hn.out]; exact hlt)
      have q0 := (hnx.cell (p := ⟨a, oa + k * 2, none⟩) ha).trans h0
      have q1 := (hnx.cell (p := ⟨a, oa + k * 2 + 1, none⟩) ha).trans h1
      clear h0 h1
      obtain ⟨h0, h1⟩ := hB.out k (by rw [hn.out]; exact hlt)
      have r0 := (hnx.cell (p := ⟨b, ob + k * 2, none⟩) hb).trans h0
      have r1 := (hnx.cell (p := ⟨b, ob + k * 2 + 1, none⟩) hb).trans h1
      clear h0 h1 hA hB
      generalize C.getD k nop = c at q0 q1 r0 r1
      obtain ⟨x, y⟩ := c
      dsimp only at q0 q1 r0 r1
      have hnx := Lib.hid hnx
      go_wp2_with fail
      go_region_with (first | (go_at_call 62; refine (eqP1 x y _).mono ?_; rintro e w1 ⟨rfl, B⟩; have D1 := Lib.hid (bstep (Below.drew hnx.out) B); clear B))
      all_goals
        go_wp2_with fail
        go_roundw
        case rel => exact ⟨k + 1, by omega, by go_num, D1.out⟩
        case measure => simp [intOf]; omega
    · obtain rfl : k = n := by omega
      have hnx := Lib.hid hnx
      clear hA hB
      go_wp2_with fail
      go_ret
      exact ⟨rfl, hnx.out⟩

theorem eqP_nil (a b : Option Addr) (ca cb : Nat) (w : World) :
    Calls Tryd.prog 34 #[.slice a 0 ca, .slice b 0 cb] w fun e w' => e = .returned (.bool true) ∧ Below w.heap.size w w' := by
  go_enter Tryd.func34, Tryd.ntmps34
  go_wp2_with fail
  refine wp_loop_rounds 1 ?_
  rw [rounds_succ]
  go_wp2_with fail
  go_ret
  exact ⟨rfl, Below.refl _ _⟩

theorem eqP_any (u x : Value) (C : List Pid) (w : World) (h : Ids w u C) (g : Ids w x C) :
    Calls Tryd.prog 34 #[u, x] w fun e w' => e = .returned (.bool true) ∧ Below w.heap.size w w' := by
  obtain ⟨a, cap, rfl, h1, h2, h3⟩ := h
  obtain ⟨b, cap', rfl, g1, g2, g3⟩ := g
  rcases h3 with h3 | ⟨a, off, rfl, h4, h5⟩
  · obtain rfl : C = [] := List.length_eq_zero_iff.1 h3
    exact eqP_nil a b cap cap' w
  · rcases g3 with g3 | ⟨b, off', rfl, g4, g5⟩
    · obtain rfl : C = [] := List.length_eq_zero_iff.1 g3
      exact eqP_nil _ b cap cap' w
    · exact eqP_at a b off off' cap cap' C w h2 h4 g4 h5 g5
end Go.Proofs.YtbbnchodchgioaaDoor

/- Draws of ids: l91Id, DrawIdValid, DrawIdBefore. -/
namespace Go.Proofs.YtbbnchodchgioaaDoor
open Go.RowKit
set_option linter.unusedVariables false

/-- What l91Id leaves: some id; the reader up to four places further. -/
def IdPost (r n : Nat) (w : World) (e : Ending) (w' : World) : Prop :=
  ∃ k v : Int, e = .returned (.agg #[.int .i64 k, .int .i64 v]) ∧ (-1 ≤ k ∧ k ≤ 5) ∧ (0 ≤ v ∧ v ≤ 51) ∧ Rd w' r (n + 4) ∧ Keep w.heap.size r w w'

set_option maxRecDepth 100000 in
set_option maxHeartbeats 2000000 in
theorem idd_any (r n : Nat) (w : World) (hrd : Rd w r n) (hn : n ≤ 900000000) :
    Calls Tryd.prog 65 #[.pointer (some ⟨r, 0, none⟩)] w (IdPost r n w) := by
  have hlt := hrd.lt
  have hb1 := Lib.hid hrd
  clear hrd
  go_enter Tryd.func65, Tryd.ntmps65
  go_wp2_with fail
  refine (pick_any 3 r n _ (hb1.out.kept ((Below.refl _ _).alloc (by omega) _)) (by omega)).mono ?_
  rintro e w1 ⟨x1, rfl, a0, a1', hr1', hk1'⟩
  have a1 := a1' (by omega); have hs1 : w.heap.size + 1 ≤ w1.heap.size := by simpa using hk1'.size
  have hk1 := Lib.hid hk1'; have hr1 := Lib.hid hr1'; clear a1' hr1' hk1'
  go_wp2_with fail
  refine (pick_any 4 r (n + 1) _ hr1.out (by omega)).mono ?_
  rintro e w2 ⟨x2, rfl, b0, b1', hr2', hk2'⟩
  have b1 := b1' (by omega); have hs2 := hk2'.size
  have hk2 := Lib.hid hk2'; have hr2 := Lib.hid hr2'; clear b1' hr2' hk2'
  go_wp2_with fail
  refine (pick_any 40 r (n + 2) _ (hr2.out.alloc _) (by omega)).mono ?_
  rintro e w3 ⟨x3, rfl, d0, d1', hr3', hk3'⟩
  have d1 := d1' (by omega); have hs3 : w2.heap.size + 1 ≤ w3.heap.size := by simpa using hk3'.size
  have hrl2 := hr2.out.lt
  have hrl : r < w.heap.size := hlt
  have hAC : w.heap.size < w2.heap.size := by omega
  have A1 : w1.heap[w.heap.size]? = some (.cells #[.int .i64 0, .int .i64 0] 25 (0, 0)) := (hk1.out.block _ (by simp) (by omega)).trans (heap_alloc_new w _)
  have A2 := (hk2.out.block w.heap.size (by omega) (by omega)).trans A1
  have A3 := (hk3'.block w.heap.size (by simp; omega) (by omega)).trans ((Below.heap_alloc w2 _ _ (by omega)).trans A2)
  have C3 := (hk3'.block w2.heap.size (by simp) (by omega)).trans (heap_alloc_new w2 _)
  have K3 : Hid (Keep w.heap.size r w w3) := Lib.hid ((((Keep.refl _ _ _).alloc (Nat.le_refl _) _).trans (hk1.out.mono (by simp))).trans (hk2.out.mono (by omega)) |>.alloc (by omega) _ |>.trans (hk3'.mono (by simp; omega)))
  obtain ⟨a30, a31, f30, f31⟩ := blk2 A3
  obtain ⟨c30, c31, g30, g31⟩ := blk2 C3
  have A3 := Lib.hid A3
  have C3 := Lib.hid C3
  have hr3 := Lib.hid hr3'; clear d1' hr3' hk3' A1 A2 hk1 hk2 hr1 hr2
  by_cases z0 : x3 = 0
  · subst z0
    go_wp2_with fail
    refine (pick_any 3 r (n + 3) _ (hr3.out.alloc _) (by omega)).mono ?_
    rintro e w6 ⟨x6, rfl, y0, y1', hr6, hk6⟩
    have y1 := y1' (by omega)
    have hs6 : w3.heap.size + 1 ≤ w6.heap.size := by simpa using hk6.size
    have A6 := (hk6.block w.heap.size (by simp; omega) (by omega)).trans ((Below.heap_alloc w3 _ _ (by omega)).trans A3.out)
    have C6 := (hk6.block w2.heap.size (by simp; omega) (by omega)).trans ((Below.heap_alloc w3 _ _ (by omega)).trans C3.out)
    have L6 := (hk6.block w3.heap.size (by simp) (by omega)).trans (heap_alloc_new w3 _)
    have K6 := Lib.hid ((K3.out.alloc (by omega) _).trans (hk6.mono (by simp; omega)))
    obtain ⟨a60, a61, f60, f61⟩ := blk2 A6
    obtain ⟨c60, c61, g60, g61⟩ := blk2 C6
    obtain ⟨l60, l61, l62, _, _, _⟩ := blk3 L6
    have hr6 := Lib.hid hr6
    clear y1' hk6 A6 C6 L6 A3 C3 K3 hr3 a30 a31 f30 f31 c30 c31 g30 g31
    rcases (show x6 = 0 ∨ x6 = 1 ∨ x6 = 2 by omega) with rfl | rfl | rfl
    · go_wp2_with fail
      exact bodyPost_ret (v := .agg #[.int .i64 (-1), .int .i64 (1 + x2)]) (by simp [results, Tryd.results65, go_sem, a60, a61]) rfl ⟨-1, 1 + x2, rfl, by omega, by omega, (((hr6.out.setCell hrl2 _).setCell hrl _).setCell hrl _).more (by omega), ((K6.out.setCell (Nat.le_of_lt hAC) _).setCell (Nat.le_refl _) _).setCell (Nat.le_refl _) _⟩
    · go_wp2_with fail
      exact bodyPost_ret (v := .agg #[.int .i64 4, .int .i64 (1 + x2)]) (by simp [results, Tryd.results65, go_sem, a60, a61]) rfl ⟨4, 1 + x2, rfl, by omega, by omega, (((hr6.out.setCell hrl2 _).setCell hrl _).setCell hrl _).more (by omega), ((K6.out.setCell (Nat.le_of_lt hAC) _).setCell (Nat.le_refl _) _).setCell (Nat.le_refl _) _⟩
    · go_wp2_with fail
      exact bodyPost_ret (v := .agg #[.int .i64 5, .int .i64 (1 + x2)]) (by simp [results, Tryd.results65, go_sem, a60, a61]) rfl ⟨5, 1 + x2, rfl, by omega, by omega, (((hr6.out.setCell hrl2 _).setCell hrl _).setCell hrl _).more (by omega), ((K6.out.setCell (Nat.le_of_lt hAC) _).setCell (Nat.le_refl _) _).setCell (Nat.le_refl _) _⟩
  · have z0' : (x3 == 0) = false := by simpa using z0
    clear z0
    by_cases z1 : x3 = 1
    · subst z1
      go_wp2_with fail
      refine (pick_any 3 r (n + 3) _ (hr3.out.alloc _) (by omega)).mono ?_
      rintro e w6 ⟨x6, rfl, y0, y1', hr6, hk6⟩
      have y1 := y1' (by omega)
      have hs6 : w3.heap.size + 1 ≤ w6.heap.size := by simpa using hk6.size
      have A6 := (hk6.block w.heap.size (by simp; omega) (by omega)).trans ((Below.heap_alloc w3 _ _ (by omega)).trans A3.out)
      have C6 := (hk6.block w2.heap.size (by simp; omega) (by omega)).trans ((Below.heap_alloc w3 _ _ (by omega)).trans C3.out)
      have L6 := (hk6.block w3.heap.size (by simp) (by omega)).trans (heap_alloc_new w3 _)
      have K6 := Lib.hid ((K3.out.alloc (by omega) _).trans (hk6.mono (by simp; omega)))
      obtain ⟨a60, a61, f60, f61⟩ := blk2 A6
      obtain ⟨c60, c61, g60, g61⟩ := blk2 C6
      obtain ⟨l60, l61, l62, _, _, _⟩ := blk3 L6
      have hr6 := Lib.hid hr6
      clear y1' hk6 A6 C6 L6 A3 C3 K3 hr3 a30 a31 f30 f31 c30 c31 g30 g31
      rcases (show x6 = 0 ∨ x6 = 1 ∨ x6 = 2 by omega) with rfl | rfl | rfl
      · go_wp2_with fail
        exact bodyPost_ret (v := .agg #[.int .i64 x1, .int .i64 0]) (by simp [results, Tryd.results65, go_sem, a60, a61]) rfl ⟨x1, 0, rfl, by omega, by omega, (((hr6.out.setCell hrl2 _).setCell hrl _).setCell hrl _).more (by omega), ((K6.out.setCell (Nat.le_of_lt hAC) _).setCell (Nat.le_refl _) _).setCell (Nat.le_refl _) _⟩
      · go_wp2_with fail
        exact bodyPost_ret (v := .agg #[.int .i64 x1, .int .i64 50]) (by simp [results, Tryd.results65, go_sem, a60, a61]) rfl ⟨x1, 50, rfl, by omega, by omega, (((hr6.out.setCell hrl2 _).setCell hrl _).setCell hrl _).more (by omega), ((K6.out.setCell (Nat.le_of_lt hAC) _).setCell (Nat.le_refl _) _).setCell (Nat.le_refl _) _⟩
      · go_wp2_with fail
        exact bodyPost_ret (v := .agg #[.int .i64 x1, .int .i64 51]) (by simp [results, Tryd.results65, go_sem, a60, a61]) rfl ⟨x1, 51, rfl, by omega, by omega, (((hr6.out.setCell hrl2 _).setCell hrl _).setCell hrl _).more (by omega), ((K6.out.setCell (Nat.le_of_lt hAC) _).setCell (Nat.le_refl _) _).setCell (Nat.le_refl _) _⟩
    · have z1' : (x3 == 1) = false := by simpa using z1
      clear z1
      go_wp2_with fail
      exact bodyPost_ret (v := .agg #[.int .i64 x1, .int .i64 (1 + x2)]) (by simp [results, Tryd.results65, go_sem, a30, a31]) rfl ⟨x1, 1 + x2, rfl, by omega, by omega, ((hr3.out.setCell hrl _).setCell hrl _).more (by omega), (K3.out.setCell (Nat.le_refl _) _).setCell (Nat.le_refl _) _⟩
end Go.Proofs.YtbbnchodchgioaaDoor

/- IdBefore of the program (cut out of Idw, for seats without the model's and without IdValid: keep them alike). -/
namespace Go.Proofs.YtbbnchodchgioaaDoor
open Go.RowKit
set_option linter.unusedVariables false

/-- What IdBefore answers. -/
def befB (r n r' n' : Int) : Bool := idB r n && idB r' n' && ltB r n r' n'

theorem ibef_any (r n r' n' : Int) (w : World) :
    Calls Tryd.prog 30 #[.agg #[.int .i64 r, .int .i64 n], .agg #[.int .i64 r', .int .i64 n']] w fun e w' => e = .returned (.bool (befB r n r' n')) ∧ Below w.heap.size w w' := by
  have s1 := ivid_any r n
  have s2 := ivid_any r' n'
  have s3 := cmpI_any r n r' n'
  have e3 := cmpI_neg r n r' n'
  unfold befB
  rw [← e3]
  clear e3
  generalize idB r n = p at s1 ⊢
  generalize idB r' n' = q at s2 ⊢
  generalize cmpI r n r' n' = x at s3 ⊢
  have T0 := Lib.hid (Two.start w r n r' n')
  cases p
  · go_enter Tryd.func30, Tryd.ntmps30
    go_wp2_with fail
    refine (s1 _).mono ?_
    rintro e w1 ⟨rfl, hb⟩
    have T1 := Lib.hid (T0.out.up hb)
    clear hb
    go_wp2_with fail
    go_ret
    exact ⟨rfl, T1.out.d⟩
  · cases q
    · go_enter Tryd.func30, Tryd.ntmps30
      go_wp2_with fail
      refine (s1 _).mono ?_
      rintro e w1 ⟨rfl, hb⟩
      have T1 := T0.out.up hb
      obtain ⟨a0, a1, _, _⟩ := blk2 T1.a
      obtain ⟨b0, b1, _, _⟩ := blk2 T1.b
      have z1 := T1.z
      have T1 := Lib.hid T1
      clear hb
      go_wp2_with fail
      refine (s2 _).mono ?_
      rintro e w2 ⟨rfl, hb⟩
      have T2 := Lib.hid (T1.out.up hb)
      clear hb
      go_wp2_with fail
      go_ret
      exact ⟨rfl, T2.out.d⟩
    · go_enter Tryd.func30, Tryd.ntmps30
      go_wp2_with fail
      refine (s1 _).mono ?_
      rintro e w1 ⟨rfl, hb⟩
      have T1 := T0.out.up hb
      obtain ⟨a0, a1, _, _⟩ := blk2 T1.a
      obtain ⟨b0, b1, _, _⟩ := blk2 T1.b
      have z1 := T1.z
      have T1 := Lib.hid T1
      clear hb
      go_wp2_with fail
      refine (s2 _).mono ?_
      rintro e w2 ⟨rfl, hb⟩
      have T2 := T1.out.up hb
      clear hb a0 a1 b0 b1
      obtain ⟨a0, a1, _, _⟩ := blk2 T2.a
      obtain ⟨b0, b1, _, _⟩ := blk2 T2.b
      have z2 := T2.z
      have T2 := Lib.hid T2
      go_wp2_with fail
      refine (s3 _).mono ?_
      rintro e w3 ⟨rfl, hb⟩
      have T3 := Lib.hid (T2.out.up hb)
      clear hb
      go_wp2_with fail
      go_ret
      exact ⟨by simp, T3.out.d⟩
end Go.Proofs.YtbbnchodchgioaaDoor

/- The laws' sizes of slices of ids. -/
namespace Go.Proofs.YtbbnchodchgioaaDoor
open Go.RowKit
set_option linter.unusedVariables false

theorem szP_any (a : Option Addr) (n cap : Nat) (k : Int) (w : World) (hk : k = 1048576) (h : n ≤ 9223372036854775807) :
    Calls Tryd.prog 78 #[.slice a n cap, .int .i64 k] w fun e w' => e = .returned (.int .i64 (if 1048576 < n then -1 else 1048576 - n)) ∧ Below w.heap.size w w' := by
  subst hk
  by_cases hl : 1048576 < n
  · rw [if_pos hl]
    go_enter Tryd.func78, Tryd.ntmps78
    go_wp2_with fail
    go_ret
    exact ⟨rfl, Below.refl _ _⟩
  · rw [if_neg hl]
    go_enter Tryd.func78, Tryd.ntmps78
    go_wp2_with fail
    go_ret
    exact ⟨rfl, Below.refl _ _⟩

/-- .. with whatever is left. -/
theorem szP_gen (a : Option Addr) (n cap : Nat) (k : Int) (w : World) (hk : 0 ≤ k) (hk2 : k ≤ 1048576) (h : n ≤ 9223372036854775807) :
    Calls Tryd.prog 78 #[.slice a n cap, .int .i64 k] w fun e w' => e = .returned (.int .i64 (if k < n then -1 else k - n)) ∧ Below w.heap.size w w' := by
  by_cases hl : k < n
  · rw [if_pos hl]
    go_enter Tryd.func78, Tryd.ntmps78
    go_wp2_with fail
    go_ret
    exact ⟨rfl, Below.refl _ _⟩
  · rw [if_neg hl]
    go_enter Tryd.func78, Tryd.ntmps78
    go_wp2_with fail
    go_ret
    exact ⟨rfl, Below.refl _ _⟩
end Go.Proofs.YtbbnchodchgioaaDoor
